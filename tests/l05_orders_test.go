package tests

import (
	"math"
	"testing"

	"loop.example/g01375/impl"
)

func TestIsCalm(t *testing.T) {
	below, above, minusZero := fromBits(0x3f7fffff), fromBits(0x3f800001), fromBits(negZero)
	rows := []struct {
		terms []float32
		want  string
	}{
		{nil, "true true"},
		{[]float32{0.5}, "true true"},
		{[]float32{2}, "false true"},
		{[]float32{-2}, "false true"},
		{[]float32{0}, "true true"},
		{[]float32{minusZero, minusZero}, "true true"},
		// 1, -1, and just within and beyond.
		{[]float32{1}, "false true"},
		{[]float32{-1}, "false true"},
		{[]float32{below}, "true true"},
		{[]float32{-below}, "true true"},
		{[]float32{above}, "false true"},
		{[]float32{-above}, "false true"},
		{[]float32{0, 1}, "false true"},
		{[]float32{0, -1}, "false true"},
		{[]float32{0, below}, "true true"},
		{[]float32{0, -below}, "true true"},
		{[]float32{0, 0, 0, 0, 0, below}, "true true"},
		{[]float32{0, 0, 0, 0, 0, 1}, "false true"},
		// Terms that are great, and lead back, or small, and do not.
		{[]float32{1.5, -0.75}, "true true"},
		{[]float32{-1.5, -0.75}, "true true"},
		{[]float32{1.5, -0.25}, "false true"},
		{[]float32{0.5, 0.75}, "false true"},
		{[]float32{2.5, -2.25, 0.75}, "false true"},
		{[]float32{2.5, -2.25, 0.5}, "false true"},
		{[]float32{3.6, -4.86, 2.916, -0.6561}, "true true"},
		{[]float32{0.9, -0.8, 0.7, -0.6, 0.5, -0.4}, "true true"},
		{[]float32{0.3, 0.3, 0.3, 0.05, 0.02, 0.02}, "true true"},
		{[]float32{0.3, 0.3, 0.3, 0.05, 0.02, 0.04}, "false true"},
		// The step down leads to 1, to -1, and just within.
		{[]float32{0.5, 0.5}, "false true"},
		{[]float32{-0.5, 0.5}, "false true"},
		{[]float32{fromBits(0x3effffff), 0.5}, "true true"},
		{[]float32{fromBits(0xbeffffff), 0.5}, "true true"},
		{[]float32{0.25, 0.25, 0.5}, "false true"},
		{[]float32{0.25, fromBits(0x3e7ffff8), 0.5}, "true true"},
		{[]float32{1, 0}, "false true"},
		{[]float32{below, 0}, "true true"},
		{[]float32{1, 0, 0, 0, 0, 0}, "false true"},
		// Steps down from very near to 1, and terms that become infinite.
		{[]float32{0, below}, "true true"},
		{[]float32{fromBits(1), below}, "true true"},
		{[]float32{0.5, below}, "false true"},
		{[]float32{3e38, below}, "false true"},
		{[]float32{3e38, -3e38, 0.5}, "false true"},
		{[]float32{-3e38, 3e38, 0, 0, below}, "false true"},
		{[]float32{0, 3e38, 0, 0.5, below}, "false true"},
		{[]float32{3e38, 0, 0, 0, 0, 0}, "false true"},
	}
	for _, row := range rows {
		calm, ok := impl.IsCalm(row.terms)
		expect(t, "calm "+shown(row.terms), shown(calm, ok), row.want)
	}
	for _, wrong := range wrongTerms() {
		calm, ok := impl.IsCalm(wrong)
		expect(t, "calm "+shown(wrong), shown(calm, ok), "false false")
	}
}

type powerRow struct {
	terms         []float32
	spread, turns float32
	want          string
}

func TestPastPower(t *testing.T) {
	minusZero := fromBits(negZero)
	rows := []powerRow{
		{[]float32{0.5}, 1, 0, "40800000 true"},
		{[]float32{0.5}, 1, 0.5, "3ee38e39 true"},
		{[]float32{0.5}, 1, 0.25, "3f4ccccd true"},
		{[]float32{0.5}, 1, -0.25, "3f4ccccd true"},
		{[]float32{0.5}, 3, 0.1, "40d9b209 true"},
		{nil, 0.7, 0.3, "3f333333 true"},
		{[]float32{0.5, 0.25}, 2, 0.25, "3f8d3dcb true"},
		{[]float32{0.3, -0.2, 0.1}, 2.3, 0.17, "404a7a64 true"},
		{[]float32{0.3, -0.2, 0.1}, 2.3, -1.83, "404a7a64 true"},
		{[]float32{0.9, -0.8, 0.7, -0.6, 0.5, -0.4}, 0.7, 0.33, "3f59a4e0 true"},
		{[]float32{0.9, -0.8, 0.7, -0.6, 0.5, -0.4}, 0.7, 12345.678, "3f3481f7 true"},
		{repeated(float32(0.1), impl.MaxOrder+1), 1, 0, "00000000 false"},
		// Turns times a place are rounded.
		{[]float32{0, 0, 0.9}, 1, 1048576.1, "3e8dd409 true"},
		{[]float32{0, 0, 0, 0, 0.9, 0.3}, 1, 2097151.3, "41c7fffa true"},
		{[]float32{0, 0, 0, 0, 0.9}, 1, 0.7, "3e8dd409 true"},
		// A power that is divided by 0, or by very little.
		{[]float32{1}, 1, 0, "00000000 false"},
		{[]float32{1}, 0, 0, "00000000 false"},
		{[]float32{-1}, 1, 0.5, "00000000 false"},
		{[]float32{0, -1}, 1, 0.25, "00000000 false"},
		{[]float32{1}, 1, 3, "00000000 false"},
		{[]float32{fromBits(0x3f7fffff)}, 1, 0, "57800000 true"},
		{[]float32{1}, 1, 1e-10, "5e0c9c83 true"},
		{[]float32{1}, 1, 1e-30, "00000000 false"},
		// A spread of 0, one that is less, and turns of zeros of both signs.
		{[]float32{0.5}, 0, 0.1, "00000000 true"},
		{[]float32{0.5}, minusZero, 0.1, "80000000 true"},
		{[]float32{0.5}, -1, 0.1, "00000000 false"},
		{[]float32{0.5}, -fromBits(1), 0.1, "00000000 false"},
		{[]float32{0.5}, fromBits(1), 0, "00000004 true"},
		{[]float32{0.5}, 1, minusZero, "40800000 true"},
		// The turns, the power, or the quotient are not finite, or only just are.
		{[]float32{0.5, 0.5}, 1, 3e38, "00000000 false"},
		{[]float32{0.5}, 1, 3e38, "40800000 true"},
		{[]float32{0.5, 0}, 1, 3e38, "00000000 false"},
		{[]float32{3e38}, 1, 0, "00000000 true"},
		{[]float32{3e38}, 3e38, 0.25, "00000000 true"},
		{[]float32{3e38, 3e38}, 1, 0, "00000000 true"},
		{[]float32{3e38, 3e38, -3e38}, 1, 0, "00000000 true"},
		{[]float32{1e19}, 3e38, 0, "40400000 true"},
		{[]float32{0.5}, 3e38, 0, "00000000 false"},
		{[]float32{0.5}, 8e37, 0, "7f70bdc2 true"},
	}
	for _, wrong := range wrongTerms() {
		rows = append(rows, powerRow{wrong, 1, 0.1, noNumber})
	}
	for _, x := range wrongNumbers() {
		rows = append(rows, powerRow{nil, x, 0.1, noNumber}, powerRow{nil, 1, x, noNumber}, powerRow{[]float32{0.5}, x, 0.1, noNumber}, powerRow{[]float32{0.5}, 1, x, noNumber})
	}
	for _, row := range rows {
		power, ok := impl.PastPower(row.terms, row.spread, row.turns)
		expect(t, "power of "+shown(row.terms, row.spread, row.turns), shown(power, ok), row.want)
	}
}

type costRow struct {
	list       []float32
	most, kind int64
	want       string
}

const noOrder = "0 00000000 false"

func TestBestOrder(t *testing.T) {
	rows := []costRow{
		{[]float32{1, -1, 1, -1}, 0, 0, "0 00000000 true"},
		{[]float32{1, -1, 1, -1}, 1, 0, "1 bfa7426a true"},
		{[]float32{1, -1, 1, -1}, 1, 1, "1 bff5d052 true"},
		{[]float32{1, -1, 1, -1}, 3, 0, "1 bfa7426a true"},
		{[]float32{1, -1, 1, -1}, 4, 0, "0 00000000 false"},
		{rough(), 0, 1, "0 423ef6e3 true"},
		{rough(), impl.MaxOrder, 0, "0 423ef6e3 true"},
		{rough(), impl.MaxOrder, 1, "0 423ef6e3 true"},
		{rough(), impl.MaxOrder + 1, 0, "0 00000000 false"},
		{wavy(), 4, 0, "0 4306e92e true"},
		{heights(), impl.MaxOrder, 0, "0 428b12ea true"},
		{heights(), impl.MaxOrder, 1, "0 428b12ea true"},
		{wholeNumbers(impl.MaxLong), impl.MaxOrder, 0, "0 44f4f77c true"},
		{wholeNumbers(impl.MaxLong), impl.MaxOrder, 1, "0 44f4f77c true"},
		{wholeNumbers(impl.MaxLong + 1), 0, 0, "0 00000000 false"},
		{[]float32{0, 1, 2, 3, 4, 5, 6, 7, 8, 9}, 3, 0, "1 4182f312 true"},
		{[]float32{1, 2, 3, 3, 2, 1, 0, 0, 1, 2, 3, 3, 2, 1, 0, 0}, 5, 0, "2 c1868d55 true"},
		{[]float32{1, 2, 3, 3, 2, 1, 0, 0, 1, 2, 3, 3, 2, 1, 0, 0}, 5, 1, "2 c174619e true"},
		{[]float32{1, -1, 2, -2, 3, -1, 1, -3, 2, -1, 1, -2}, 4, 0, "1 40adde96 true"},
		{tiny(), 2, 0, "0 00000000 false"},
		{steep(), 2, 1, "0 00000000 false"},
		// Costs that are equal for several orders.
		{[]float32{fromBits(0x40365944), 3, -1, 2, -4, 4, 0, -1}, 3, 0, "0 416cb4cb true"},
		{[]float32{fromBits(0x4005f3da), 3, 0, -5, 3, 4, -1}, 3, 0, "0 416ee37c true"},
		{[]float32{1, fromBits(0x4051ca94), 0, -2, 0, 5, -4, 2, 0}, 3, 0, "1 418302e6 true"},
		{[]float32{3, fromBits(0x3f4736db), 2, 1}, 3, 1, "0 bf7e8b98 true"},
		{[]float32{1, fromBits(0x3f25d142), 5, 2, -5, 5}, 3, 1, "0 41690052 true"},
		{[]float32{2, 4, fromBits(0x3f3d37b1), 4}, 3, 1, "1 3e8520b8 true"},
		// A spread of 0 in the cost of the first order, or of a later one, and a
		// spread that is less.
		{fromAll(0x9a312d77, 0x9a71d54b, 0x199aec1b, 0x18d35adb), 0, 0, "0 00000000 false"},
		{fromAll(0x18defbab, 0x1a5af425, 0x995e5782), 0, 0, "0 00000000 false"},
		{fromAll(0x18defbab, 0x1a5af425, 0x995e5782), 1, 0, "0 00000000 false"},
		{fromAll(0x990389fa, 0x1a946fe4, 0x9a12b097, 0x1a4b1261), 0, 0, "0 c3ce8ed0 true"},
		{fromAll(0x990389fa, 0x1a946fe4, 0x9a12b097, 0x1a4b1261), 1, 0, "0 00000000 false"},
		{fromAll(0x998c7ddc, 0x194399d1, 0x1a93dbda, 0x9a3b7609), 2, 1, "0 00000000 false"},
		{fromAll(0x998c7ddc, 0x194399d1, 0x1a93dbda, 0x9a3b7609), 1, 1, "0 c3ce8ed0 true"},
		// Series that never change, or are too short.
		{[]float32{5}, 0, 0, "0 00000000 false"},
		{[]float32{5, 5, 5}, 1, 1, "0 00000000 false"},
		{[]float32{1, 2}, 1, 0, "0 c0317218 true"},
		{[]float32{1, 2}, 2, 0, "0 00000000 false"},
		{wavy()[:6], impl.MaxOrder, 0, "0 00000000 false"},
		{wavy()[:7], impl.MaxOrder, 0, "0 42a433ff true"},
		// Other kinds.
		{rough(), 1, 2, "0 00000000 false"},
		{rough(), 1, -1, "0 00000000 false"},
	}
	for _, n := range farInts() {
		rows = append(rows, costRow{rough(), n, 0, noOrder}, costRow{rough(), 1, n, noOrder})
	}
	for _, wrong := range wrongSeries() {
		rows = append(rows, costRow{wrong, 0, 0, noOrder}, costRow{wrong, 1, 1, noOrder})
	}
	for _, row := range rows {
		order, cost, ok := impl.BestOrder(row.list, row.most, row.kind)
		expect(t, "best order of "+shown(row.list, row.most, row.kind), shown(order, cost, ok), row.want)
	}
}

type movingRow struct {
	list          []float32
	order, rounds int64
	want          string
}

func TestMovingParts(t *testing.T) {
	rows := []movingRow{
		{[]float32{1, -1, 1, -1}, 1, 0, "[bf400000] 3ee00000 true"},
		{[]float32{1, -1, 1, -1}, 1, 1, "[bfdb6db7] be924924 true"},
		{[]float32{1, -1, 1, -1}, 2, 3, "[bf400000 402aaaab] be155558 true"},
		{rough(), 0, 3, "[] 00000000 false"},
		{rough(), 1, 0, "[be6690f6] 424ae53f true"},
		{rough(), 1, 5, "[be739dbc] 424a483e true"},
		{rough(), 2, 4, "[bef14ec8 bebd41bd] 421beab7 true"},
		{rough(), 3, 2, "[beca63e0 bea8bd6f 3d5094ad] 4227e8e4 true"},
		{rough(), impl.MaxOrder, 0, "[bef16061 beab0ade 3bc11998 bbeaf0bf bd9b5d05 3eb161e6] 420a0635 true"},
		{rough(), impl.MaxOrder, 9, "[3db1c3c6 3fe21d23 3eda56bb 3e734c51 3d8d4625 3f12dbfa] 422298ad true"},
		{rough(), impl.MaxOrder, 32, "[3c386ced 3e94c96c 3ed7160f 3e6a3187 3dca879b 3f21de37] 421bd96a true"},
		{rough(), impl.MaxOrder, 33, "[] 00000000 false"},
		{rough(), impl.MaxOrder + 1, 0, "[] 00000000 false"},
		{wavy(), 3, 32, "[be6d287b be0cc2e5 be0c5829] 478892b4 true"},
		{wavy(), 1, 33, "[] 00000000 false"},
		{heights(), 4, 17, "[beedc09f bea89d95 3e3da640 be88e1ed] 42c3bd67 true"},
		{wholeNumbers(impl.MaxLong), 5, 20, "[3cc492c4 3cf6039b 3e0a4512 3e4fec82 be20fea0] 4e212bf8 true"},
		{wholeNumbers(impl.MaxLong + 1), 1, 1, "[] 00000000 false"},
		{tiny(), 2, 2, "[] 00000000 false"},
		{steep(), 1, 2, "[] 00000000 false"},
		// Lags that are as great as the length, or greater.
		{[]float32{1, 2}, 1, 2, "[bf400001] 3e1fffff true"},
		{[]float32{1, 2}, 2, 2, "[bf4cccce 00000000] 3e199999 true"},
		{[]float32{1, 2}, 3, 2, "[bf555556 00000000 00000000] 3e155555 true"},
		{[]float32{1, 2, 5}, impl.MaxOrder, 32, "[be856e8b bf3225f3 00000000 00000000 00000000 00000000] 3fee20d1 true"},
		// The first divisor is 0, or a later one is, or only the last spread.
		{[]float32{5}, 1, 0, "[] 00000000 false"},
		{[]float32{5}, 6, 32, "[] 00000000 false"},
		{repeated(float32(4), impl.MaxLong), 2, 1, "[] 00000000 false"},
		{fromAll(0x186c8c92, 0x9a85678b, 0x1a7c064d), 1, 0, "[bf800000] 00000000 true"},
		{fromAll(0x186c8c92, 0x9a85678b, 0x1a7c064d), 1, 1, "[] 00000000 false"},
		{fromAll(0x1a487411, 0x9ae17b00, 0x1adca01f), 1, 1, "[bfc00000] 00000000 true"},
		{fromAll(0x1a487411, 0x9ae17b00, 0x1adca01f), 1, 2, "[] 00000000 false"},
		{fromAll(0x1acd6a9e, 0x99cd6e20, 0x9a6153a2, 0x997da6b7, 0x97bd0486), 2, 0, "[00000000 bf800000] 00000000 true"},
		{fromAll(0x1acd6a9e, 0x99cd6e20, 0x9a6153a2, 0x997da6b7, 0x97bd0486), 2, 1, "[] 00000000 false"},
		{fromAll(0x99518e0e, 0x9ac1718d, 0x9a6abf3b, 0x9ac12ef9, 0x1a196380), 2, 0, "[] 00000000 false"},
		// The sums are not finite, or only just are.
		{[]float32{2e19, -2e19, 1}, 1, 0, "[] 00000000 false"},
		{[]float32{1e19, -1e19, 1}, 1, 0, "[bf000000] 7e167699 true"},
		{[]float32{1e19, -1e19, 1}, 2, 5, "[bf600001 1f86ecbd] 7de1b1e4 true"},
		{[]float32{3e38, 3e38}, 1, 0, "[] 00000000 false"},
	}
	for _, n := range farInts() {
		rows = append(rows, movingRow{rough(), n, 1, noTerms}, movingRow{rough(), 1, n, noTerms})
	}
	for _, wrong := range wrongSeries() {
		rows = append(rows, movingRow{wrong, 1, 0, noTerms}, movingRow{wrong, 2, 3, noTerms})
	}
	for _, row := range rows {
		terms, spread, ok := impl.MovingParts(row.list, row.order, row.rounds)
		expect(t, "moving parts of "+shown(row.list, row.order, row.rounds), shown(terms, spread, ok), row.want)
	}
}

type drawnRow struct {
	terms       []float32
	mean, wide  float32
	seed, count int64
	want        string
}

const nothingDrawn = "[] 0 false"

func TestDrawnSeries(t *testing.T) {
	minusZero := fromBits(negZero)
	rows := []drawnRow{
		{nil, 3, 0, 0, 2, "[40400000 40400000] 2748932008 true"},
		{nil, 0, 1, 0, 1, "[3b056500] 2868466484 true"},
		{nil, 0, 1, 0, 4, "[3b056500 bc29a280 3f1fb5b9 3ca77c00] 2210837584 true"},
		{nil, 0, 16777216, 77, 5, "[cad2806a cac529f0 c9e9b8e0 c650c000 4a91aa76] 3980551777 true"},
		{nil, 0, -1, 0, 4, "[bb056500 3c29a280 bf1fb5b9 bca77c00] 2210837584 true"},
		{[]float32{0.5}, 0, 1, 0, 4, "[3b056500 bc18f5e0 3f1e83cd 3ea8fb8d] 2210837584 true"},
		{[]float32{0.5}, 2, 1, 12345, 6, "[3f9b8575 3fd64d50 4000054b 400cc542 40342374 403f33b5] 2147159953 true"},
		{[]float32{0.3, -0.2, 0.1}, 2.3, 0.7, 99, 9, "[3ff6fc2a 3fdf4759 401eb6e1 400e49c3 403ba3a0 402f1576 3ff9fdae 4000c123 40296057] 4198131815 true"},
		{[]float32{0.9, -0.8, 0.7, -0.6, 0.5, -0.4}, 1.7, 3.3, 4000000000, 12, "[40394e1c 409e7232 4052b8de 403fba68 40568be0 3f5d9194 403d004c 408b4e3f 4006fab9 4000a6b8 3fc657fd 3fecefdc] 3401400560 true"},
		{repeated(float32(0.1), impl.MaxOrder+1), 1, 1, 0, 1, "[] 0 false"},
		{[]float32{1.5}, 1, 0.1, 5, 20, "[3f80d8a5 3f7d5429 3f662a79 3f5cbaaa 3f4666bc 3f3b59ef 3f25dedf 3ee7716d 3e2336fc be889b1a bf5be11c bff85166 c05c9af8 c0b81159 c112532a c1646b0d c1aee4c6 c2057f1b c24a249b c298a3d7] 252991445 true"},
		// Seeds.
		{nil, 1, 1, 4294967295, 2, "[3e41c2c0 400e9c20] 3109052295 true"},
		{nil, 1, 1, 4294967296, 2, "[] 0 false"},
		{nil, 1, 1, -1, 2, "[] 0 false"},
		// Counts.
		{[]float32{0.5}, 1, 1, 7, 0, "[] 0 false"},
		{[]float32{0.5}, 1, 1, 7, 1, "[3fd88b2b] 3981355051 true"},
		{[]float32{0.5, -0.3}, 1, 1, 7, impl.MaxLong, "[3fd88b2b 3f2a4351 3f974524 3fc9692c 3fe0d080 3f642400 3f892a5c 3e56a820 3e348e14 3f9b51a0 3f9f2a0e 3f833f6f 3f7a5f92 3f9e4694 bdaf7cb0 3f068d32 3fbee011 3feb908e 400e661b 3fc132b4 3e89304e 3f37ac76 3ec44578 3f9d7a31 3f5ea9b5 3f119863 3fb01c74 3fc59746 3fb05daa 3fc833d1 40061598 3fbdb001 3ff23b6e 3f88ed58 be97f73e 3e895f44 3f2e3c26 3f1164fd 3f7f6f23 3f2c79b2 3f4b880e 3f359220 3f33c62b 3fb2bda4 3fc369d8 3d99a8c0 3f94a21c 3f83f0d6 3f9d8006 3e19334c 3f3a9ae2 3f0521f9 3f490808 400420b6 3f5a7c73 3fb665a3 3eb4b358 3f9fa601 3f8fc8c2 3fe6bbcf 3fc6dc1c 3fbf6f15 3fb3719f 3f4d1dd8 3f5f7858 3f86b463 3fcbe5fc 3ef0f1b8 3ec670d2 3f9675e2 3fba95ab 3f597aea 3de92048 3f091d0d 3f5bf803 3fc268cb 3eebe1a4 3fdd12e2 40020e3a 3fc42e63 3e879e0e 3d65d4a0 3ea19b36 3f6627a6 3f87c830 3f7b2b82 3fabf6c6 3f31312e be8a33c4 3f93c2ae 3f04ed3c 3f9d2e44 3fbf8f0c 3f9bb4d1 3fa1fb8c 3f8cd40a] 803144071 true"},
		{[]float32{0.5}, 1, 1, 7, impl.MaxLong + 1, "[] 0 false"},
		// The numbers before the first one are the mean, also where it is far away.
		{[]float32{0.1, 0.1, 0.1}, 1e8, 3, 1, 3, "[4cbebc20 4cbebc20 4cbebc20] 1814098701 true"},
		{[]float32{3e38, 3e38}, 3e38, 0, 1, 4, "[7f61b1e6 7f61b1e6 7f61b1e6 7f61b1e6] 4212701329 true"},
		{[]float32{minusZero}, minusZero, minusZero, 0, 2, "[00000000 00000000] 2748932008 true"},
		{nil, minusZero, 0, 0, 2, "[00000000 00000000] 2748932008 true"},
		{[]float32{0.5}, fromBits(3), fromBits(40), 9, 4, "[80000018 80000011 80000008 80000012] 3047742105 true"},
		// The first, or the last, number is not finite, or only just is.
		{nil, 3e38, 3e38, 12345, 1, "[7e421b60] 2726892157 true"},
		{nil, 3e38, 3e38, 12345, 2, "[7e421b60 7f70c161] 2355140353 true"},
		{nil, 3e38, 3e38, 12345, 3, "[] 0 false"},
		{nil, -3e38, 3e38, 12345, 1, "[] 0 false"},
		{[]float32{3e19}, 0, 1e19, 7, 1, "[5ebfff96] 3981355051 true"},
		{[]float32{3e19}, 0, 1e19, 7, 2, "[5ebfff96 7f1c1fb2] 228089999 true"},
		{[]float32{3e19}, 0, 1e19, 7, 3, "[] 0 false"},
	}
	for _, n := range farInts() {
		rows = append(rows, drawnRow{nil, 1, 1, n, 2, nothingDrawn}, drawnRow{nil, 1, 1, 0, n, nothingDrawn})
	}
	for _, wrong := range wrongTerms() {
		rows = append(rows, drawnRow{wrong, 1, 1, 0, 1, nothingDrawn}, drawnRow{wrong, 0, 0, 0, 2, nothingDrawn})
	}
	for _, x := range wrongNumbers() {
		rows = append(rows, drawnRow{nil, x, 1, 0, 1, nothingDrawn}, drawnRow{nil, 1, x, 0, 1, nothingDrawn})
	}
	rows = append(rows, drawnRow{nil, 1, 1, math.MaxUint32 + 1, 1, nothingDrawn})
	for _, row := range rows {
		list, seed, ok := impl.DrawnSeries(row.terms, row.mean, row.wide, row.seed, row.count)
		expect(t, "drawn by "+shown(row.terms, row.mean, row.wide, row.seed, row.count), shown(list, seed, ok), row.want)
	}
}
