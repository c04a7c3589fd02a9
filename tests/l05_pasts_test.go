package tests

import (
	"math"
	"testing"

	"loop.example/g01375/impl"
)

// The bits in the tests of chapter 5 were computed outside of Go, each
// operation rounded on its own.

// noTerms also stands for other results of a list and a number that fail.
const noTerms = "[] 00000000 false"

// fromAll returns the numbers with bits.
func fromAll(bits ...uint32) []float32 {
	list := make([]float32, len(bits))
	for i, n := range bits {
		list[i] = fromBits(n)
	}
	return list
}

// wrongTerms are terms that are too many, or not finite.
func wrongTerms() [][]float32 {
	wrong := [][]float32{repeated(float32(0.1), impl.MaxOrder+1), repeated(float32(0), 1000)}
	for _, x := range wrongNumbers() {
		wrong = append(wrong, []float32{x}, []float32{0.5, x}, []float32{x, 0.5}, append(repeated(float32(0.1), impl.MaxOrder-1), x))
	}
	return wrong
}

func wrongNumbers() []float32 {
	return []float32{fromBits(infBits), fromBits(minusInf), fromBits(nanBits)}
}

func farInts() []int64 { return []int64{-1, math.MinInt64, math.MaxInt64} }

func TestModelLimits(t *testing.T) {
	expect(t, "limits", shown(impl.MaxOrder, impl.MaxStates, impl.MaxForth), "6 3 32")
}

type orderRow struct {
	list  []float32
	order int64
	want  string
}

func TestOwnPast(t *testing.T) {
	rows := []orderRow{
		{[]float32{1, -1, 1, -1}, 1, "[bf400000] 3ee00000 true"},
		{[]float32{1, -1, 1, -1}, 0, "[] 3f800000 true"},
		{[]float32{1, 2, 4, 8}, 2, "[3e80cf05 bea90eaa] 40c5980d true"},
		{rough(), 0, "[] 4255bb34 true"},
		{rough(), 1, "[be6690f5] 424ae53f true"},
		{rough(), 2, "[be9bd644 beb41c01] 4231c9b3 true"},
		{rough(), 3, "[beb67b55 becb29d5 be177cbb] 422de59f true"},
		{rough(), impl.MaxOrder, "[bef16062 bf113790 becf8a82 bec06820 beb36d50 3d7993fd] 420a0634 true"},
		{rough(), impl.MaxOrder + 1, "[] 00000000 false"},
		{wavy(), 5, "[be8d71d7 be696fba be7bf862 be72e17c be2f7984] 47812463 true"},
		{heights(), impl.MaxOrder, "[befed856 beeecd7a be9942ed bed265e6 beceb65a 3e062b17] 429cda12 true"},
		{steep(), 2, "[] 00000000 false"},
		{tiny(), 2, "[] 00000000 false"},
		{wholeNumbers(impl.MaxLong), impl.MaxOrder, "[3c80838c 3d2da526 3e055e2b 3e3b041b be218395 bd89e5ab] 4e218c95 true"},
		{wholeNumbers(impl.MaxLong + 1), 2, "[] 00000000 false"},
		// Series that are long enough, and too short.
		{[]float32{1, 2}, 1, "[bf000000] 3e400000 true"},
		{[]float32{1, 2}, 2, "[] 00000000 false"},
		{wavy()[:6], 5, "[bece85e3 be8789ba be8afdba be8db458 bdfd9460] 47e2edf6 true"},
		{wavy()[:6], impl.MaxOrder, "[] 00000000 false"},
		{wavy()[:7], impl.MaxOrder, "[bee72495 bef688ce becd79a2 bebfe786 be5ce578 be148f4d] 47b84967 true"},
		// Series that never change.
		{[]float32{5}, 0, "[] 00000000 false"},
		{[]float32{5}, 1, "[] 00000000 false"},
		{[]float32{1, 1}, 0, "[] 00000000 false"},
		{repeated(float32(4), impl.MaxLong), 3, "[] 00000000 false"},
		// The last terms change those before them, and the likes stand for the spread.
		{[]float32{4, 1, 3, -2, 5, 0}, 2, "[bf4cfc08 bddb426f] 402f2601 true"},
		{[]float32{4, 1, 3, -2, 5, 0}, 3, "[bf5158ab be701f3c be22f7f0] 402ab654 true"},
		// A spread becomes 0, or less, where likes are as great as 1, or greater.
		{fromAll(0x9a312d77, 0x9a71d54b, 0x199aec1b, 0x18d35adb), 0, "[] 00000000 true"},
		{fromAll(0x18defbab, 0x1a5af425, 0x995e5782), 1, "[bf800000] 00000000 true"},
		{fromAll(0x990389fa, 0x1a946fe4, 0x9a12b097, 0x1a4b1261), 1, "[bfaaaaab] 80000001 true"},
		{fromAll(0x998c7ddc, 0x194399d1, 0x1a93dbda, 0x9a3b7609), 2, "[bfccccce bfb33334] 80000001 true"},
		{falling(), 2, "[] 00000000 false"},
		// The squares, or the mean, are not finite, or only just are.
		{[]float32{2e19, -2e19, 1}, 1, "[] 00000000 false"},
		{[]float32{1e19, -1e19, 1}, 1, "[bf000000] 7e167699 true"},
		{[]float32{3e38, 3e38}, 1, "[] 00000000 false"},
	}
	for _, order := range farInts() {
		rows = append(rows, orderRow{rough(), order, noTerms})
	}
	for _, wrong := range wrongSeries() {
		rows = append(rows, orderRow{wrong, 0, noTerms}, orderRow{wrong, 1, noTerms})
	}
	for _, row := range rows {
		terms, spread, ok := impl.OwnPast(row.list, row.order)
		expect(t, "own past of "+shown(row.list, row.order), shown(terms, spread, ok), row.want)
	}
}

func TestOwnRows(t *testing.T) {
	rows := []orderRow{
		{[]float32{1, 2, 4, 8}, 1, "[00000000 40000000] 00000000 true"},
		{[]float32{1, 3, 2, 5, 4}, 1, "[4055f15c 3d6a0edf] 3f9f15f1 true"},
		{[]float32{1, 2, 1, 3, 2, 5, 1, 0}, 2, "[40599995 be999993 be999993] 401dddde true"},
		{rough(), 1, "[405bae8b be847b7a] 4259f5cd true"},
		{rough(), 2, "[409bb7d9 bebb154f bedb47af] 42436d49 true"},
		{rough(), 4, "[410fdb39 bee61c09 bf4bfb23 becace2a bee96281] 420be5b5 true"},
		{rough(), impl.MaxColumns - 1, "[41833eae befe24f7 bf8ed475 bf83e1b9 bf6e02f9 bf911b76] 41592563 true"},
		{rough(), impl.MaxColumns, "[] 00000000 false"},
		{rough(), 0, "[] 00000000 false"},
		{wavy(), 3, "[433f9664 be8351e4 be4504c8 be48c311] 47ad1ab8 true"},
		{heights(), 5, "[425640bd bf6e95c8 bf68c899 bf4d02fb bf61310b bf63371f] 418edc05 true"},
		{wholeNumbers(impl.MaxLong), impl.MaxColumns - 1, "[471be206 bba95add 3d20303c 3e140855 3e42f3f2 be241ac1] 4e1c79d3 true"},
		{wholeNumbers(impl.MaxLong + 1), 1, "[] 00000000 false"},
		// There are more terms than rows, or as many.
		{[]float32{1, 2}, 1, "[] 00000000 false"},
		{[]float32{1, 2, 5}, 1, "[bf7fffd5 403ffffa] 2b680000 true"},
		{[]float32{1, 2, 5}, 2, "[] 00000000 false"},
		{[]float32{1, 2, 5, 3, 7}, 2, "[40c2e8b6 bf68ba29 3f3a2e91] 2ad55555 true"},
		{[]float32{1}, 1, "[] 00000000 false"},
		{[]float32{1, 2}, 2, "[] 00000000 false"},
		// Columns that never change are like that of 1.
		{[]float32{4, 4, 4, 4}, 1, "[] 00000000 false"},
		{[]float32{4, 4, 4, 7}, 1, "[] 00000000 false"},
		{[]float32{4, 3, 4, 7}, 1, "[3f800000 3f800000] 402aaaab true"},
		{tiny(), 1, "[] 00000000 false"},
		{steep(), 1, "[] 00000000 false"},
		// The squares of the rests are not finite, or only just are.
		{[]float32{0, 1, 0, 3e19}, 1, "[] 00000000 false"},
		{[]float32{0, 1, 0, 1e19}, 1, "[5e8ac723 de8ac724] 7d489e21 true"},
	}
	for _, order := range farInts() {
		rows = append(rows, orderRow{rough(), order, noTerms})
	}
	for _, wrong := range wrongSeries() {
		rows = append(rows, orderRow{wrong, 1, noTerms})
	}
	for _, row := range rows {
		terms, spread, ok := impl.OwnRows(row.list, row.order)
		expect(t, "own rows of "+shown(row.list, row.order), shown(terms, spread, ok), row.want)
	}
}

type restRow struct {
	list, terms []float32
	mean        float32
	want        string
}

func TestPastRests(t *testing.T) {
	minusZero := fromBits(negZero)
	rows := []restRow{
		{[]float32{2, 3, 4}, []float32{0.5}, 0, "[40000000 40200000] true"},
		{[]float32{2, 3, 4}, []float32{0.5}, 1, "[3fc00000 40000000] true"},
		{[]float32{2, 3, 5, 9}, []float32{0.5, 0.25}, 1, "[40300000 40b00000] true"},
		{[]float32{2, 3, 4}, nil, 1, "[3f800000 40000000 40400000] true"},
		{[]float32{7}, nil, 0.3, "[40d66666] true"},
		{rough(), []float32{0.3, -0.2, 0.1}, 2.3, "[4148cccd c0da147a c0f06a7e 3fd74bc8 416d1aa0 c0deb852 40ee6666 c08dc28f c0e00000] true"},
		{wavy(), []float32{0.7, -0.4}, -0.1, "[41373333 c0cf851f 447aca3d c43abae1 43db4605 c1b46e98 416b8937 c13f3b64 42d68f5c c28c5c29] true"},
		{rough(), []float32{0.9, -0.8, 0.7, -0.6, 0.5, -0.4}, 1.7, "[c0a74398 41a6d2f2 c1954fe0 4192d70a c156041a 4069999c] true"},
		{rough(), repeated(float32(0.1), impl.MaxOrder+1), 1.7, "[] false"},
		{wholeNumbers(impl.MaxLong), []float32{1.1, -0.3}, 40000, "[466a4400 46f0ea66 c743ea00 47a0365a c6b0c868 46783ad0 c78d795a 474cc1cd 471df1b3 c715f0e8 c57c09a0 4559e660 465d7400 46daf666 c756aa00 4792f35a c6f56068 459fe598 46676134 46d82700 c75bf4b4 478e5c80 c707c0e8 44424000 46140668 46a6b39a c7789166 477c394d c72c239a c614f2cc c4e4e330 460d3866 46b445cd c7694bb3 4789fdcd c70be4b4 445fb340 46284400 46ba059a c76a4ecc 47878ac0 c714adcc c512d4d0 45cc0f34 46912166 4703ff1a c73ad5e8 c67e6000 47acbbcd c655be00 c78ddae6 474988e6 47184300 c71e1568 c5d2d730 430e4d00 461f5c66 46b6ff00 c76b1b80 47877fb3 c7140d4c c4fac660 45dc7ccc 4696aa00 47077a00 c736a466 c66abf98 c61e32cc c5009e60 460f6202 46b83500 c765e6e6 478c66cc c705a580 4532b330 464caa68 46cf1334 c75e5acc 478e3b5a c705df66 44e1c9a0 462caacc 46b74d66 c76e20b4 478466e6 c71d6b4c c5a304cc 453d8cd0 4661c734 46e2d4cc c74fe066 4797c55a c6dc639c 460d5600] true"},
		{wholeNumbers(impl.MaxLong + 1), []float32{1.1}, 1, "[] false"},
		{tiny(), []float32{0.5}, fromBits(3), "[007ffffd 80400004 00800001 80400004] true"},
		{steep(), []float32{0.3, 0.3}, 1e18, "[5f9c2008 deaedc32 df7b53a6 5e04abf2] true"},
		// The mean is added behind all sums, and each product is rounded.
		{[]float32{1, 1, 1}, []float32{1e8, -1e8}, 0.5, "[3f000000] true"},
		{[]float32{0.1, 0.7, 0.3}, []float32{0.1, 0.7}, 0.01, "[3e21cac1] true"},
		// As many terms as numbers, one less, and one more.
		{[]float32{1, 2, 3}, []float32{1, 1, 1}, 0, "[] false"},
		{[]float32{1, 2, 3}, []float32{1, 1}, 0, "[00000000] true"},
		{[]float32{1, 2, 3}, []float32{1, 1, 1, 1}, 0, "[] false"},
		{[]float32{1}, []float32{0.5}, 0, "[] false"},
		{wavy()[:7], repeated(float32(0.25), impl.MaxOrder), 0, "[c36af5c2] true"},
		{wavy()[:6], repeated(float32(0.25), impl.MaxOrder), 0, "[] false"},
		// Zeros of both signs.
		{[]float32{minusZero, minusZero}, nil, minusZero, "[80000000 80000000] true"},
		{[]float32{minusZero, 0}, nil, 0, "[80000000 00000000] true"},
		{[]float32{minusZero, minusZero, minusZero}, []float32{minusZero}, minusZero, "[80000000 80000000] true"},
		// A rest is not finite, or only just is.
		{[]float32{3e38, 1}, []float32{2}, 0, "[] false"},
		{[]float32{1, 3e38}, []float32{2}, 0, "[7f61b1e6] true"},
		{[]float32{1, 3e38, 1}, []float32{2}, 0, "[] false"},
		{[]float32{3e38}, nil, -3e38, "[] false"},
		{[]float32{3e38, -3e38}, []float32{1}, 0, "[] false"},
	}
	for _, wrong := range wrongSeries() {
		rows = append(rows, restRow{wrong, nil, 0, noNumbers}, restRow{wrong, []float32{0.5}, 0, noNumbers})
	}
	for _, wrong := range wrongTerms() {
		rows = append(rows, restRow{rough(), wrong, 0, noNumbers}, restRow{repeated(float32(0), impl.MaxLong), wrong, 0, noNumbers})
	}
	for _, x := range wrongNumbers() {
		rows = append(rows, restRow{rough(), []float32{0.5}, x, noNumbers}, restRow{rough(), nil, x, noNumbers})
	}
	for _, row := range rows {
		rests, ok := impl.PastRests(row.list, row.terms, row.mean)
		expect(t, "rests of "+shown(row.list, row.terms, row.mean), shown(rests, ok), row.want)
	}
}

type forthRow struct {
	list, terms []float32
	mean        float32
	count       int64
	want        string
}

func TestPastAhead(t *testing.T) {
	minusZero := fromBits(negZero)
	rows := []forthRow{
		{[]float32{8}, []float32{0.5}, 0, 3, "[40800000 40000000 3f800000] true"},
		{[]float32{8}, []float32{0.5}, 4, 3, "[40c00000 40a00000 40900000] true"},
		{[]float32{1, 1}, []float32{1, 1}, 0, 6, "[40000000 40400000 40a00000 41000000 41500000 41a80000] true"},
		{[]float32{2, 8}, []float32{0.5, 0.25}, 0, 2, "[40900000 40880000] true"},
		{[]float32{8}, nil, 3, 2, "[40400000 40400000] true"},
		{rough(), []float32{0.3, -0.2, 0.1}, 2.3, 12, "[3ebd709c 4050b43a 40093c36 3fef1d92 40130cfa 4017afeb 4011cfd1 4011df05 40138718 40136cde 401311b4 40132602] true"},
		{wavy(), []float32{0.7, -0.4}, -0.1, 5, "[c21d51eb c1e0020c c07c13a2 4105f914 40ebbccd] true"},
		{rough(), []float32{0.9, -0.8, 0.7, -0.6, 0.5, -0.4}, 1.7, impl.MaxForth, "[40f9999a 4021eb87 c0934bc8 401bbb2c 3f369f68 3fb8ff5e 4090f737 be271cd0 3f87bef2 407d96df 3fc19e4b 3ff4524c 3ff880aa 3f2ff04e 400f6aed 4002b24c 3f66976c 3fdd7f67 3fd6e388 3fc89f7c 400366c6 3fc6f560 3fc5460f 3ffd2212 3fda441a 3fd81f27 3fe1675c 3fca3eee 3fde003a 3fe25044 3fcd7c5a 3fd8833f] true"},
		{rough(), repeated(float32(0.1), impl.MaxOrder+1), 1.7, 1, "[] false"},
		{wholeNumbers(impl.MaxLong), []float32{1.1, -0.3}, 40000, 4, "[47756980 475b6ea6 47470076 47385283] true"},
		{wholeNumbers(impl.MaxLong + 1), []float32{1.1}, 1, 1, "[] false"},
		{tiny(), []float32{0.5, -0.25}, fromBits(3), 4, "[801fffff 800ffffd 00000003 00040003] true"},
		// Counts.
		{[]float32{8}, []float32{0.5}, 0, 0, "[] true"},
		{[]float32{8}, []float32{0.5}, 0, 1, "[40800000] true"},
		{[]float32{8}, []float32{0.5}, 0, impl.MaxForth, "[40800000 40000000 3f800000 3f000000 3e800000 3e000000 3d800000 3d000000 3c800000 3c000000 3b800000 3b000000 3a800000 3a000000 39800000 39000000 38800000 38000000 37800000 37000000 36800000 36000000 35800000 35000000 34800000 34000000 33800000 33000000 32800000 32000000 31800000 31000000] true"},
		{[]float32{8}, []float32{0.5}, 0, impl.MaxForth + 1, "[] false"},
		// As many terms as numbers, and one more.
		{[]float32{1, 2, 3}, []float32{1, 0.5, 0.25}, 0, 4, "[40880000 40c80000 41120000 41550000] true"},
		{[]float32{1, 2, 3}, []float32{1, 0.5, 0.25, 0.125}, 0, 4, "[] false"},
		{[]float32{1, 2, 3}, []float32{1, 0.5, 0.25, 0.125}, 0, 0, "[] false"},
		{wavy()[:6], repeated(float32(0.25), impl.MaxOrder), 0, 3, "[437075c2 4395e667 43bbb667] true"},
		{wavy()[:5], repeated(float32(0.25), impl.MaxOrder), 0, 3, "[] false"},
		// Zeros of both signs.
		{[]float32{minusZero}, nil, minusZero, 1, "[00000000] true"},
		{[]float32{minusZero}, []float32{1}, minusZero, 2, "[00000000 00000000] true"},
		// The first, or the last, number is not finite, or only just is.
		{[]float32{3e38}, []float32{2}, 0, 1, "[] false"},
		{[]float32{1e38}, []float32{2}, 0, 2, "[] false"},
		{[]float32{1e38}, []float32{2}, 0, 1, "[7f167699] true"},
		{[]float32{3e38}, []float32{1}, -3e38, 1, "[] false"},
		{[]float32{3e38}, []float32{1}, -3e38, 0, "[] true"},
	}
	for _, count := range append(farInts(), math.MaxInt64-impl.MaxForth) {
		rows = append(rows, forthRow{rough(), []float32{0.5}, 0, count, noNumbers})
	}
	for _, count := range []int64{0, 1} {
		for _, wrong := range wrongSeries() {
			rows = append(rows, forthRow{wrong, nil, 0, count, noNumbers})
		}
		for _, wrong := range wrongTerms() {
			rows = append(rows, forthRow{repeated(float32(0), impl.MaxLong), wrong, 0, count, noNumbers})
		}
		for _, x := range wrongNumbers() {
			rows = append(rows, forthRow{rough(), []float32{0.5}, x, count, noNumbers})
		}
	}
	for _, row := range rows {
		ahead, ok := impl.PastAhead(row.list, row.terms, row.mean, row.count)
		expect(t, "ahead of "+shown(row.list, row.terms, row.mean, row.count), shown(ahead, ok), row.want)
	}
}

type spreadRow struct {
	terms  []float32
	spread float32
	count  int64
	want   string
}

func TestPastSpreads(t *testing.T) {
	minusZero := fromBits(negZero)
	rows := []spreadRow{
		{[]float32{0.5}, 4, 3, "[40800000 40a00000 40a80000] true"},
		{nil, 0.7, 4, "[3f333333 3f333333 3f333333 3f333333] true"},
		{[]float32{1, 1}, 1, 6, "[3f800000 40000000 40c00000 41700000 42200000 42d00000] true"},
		{[]float32{0.5, 0.25}, 16, 4, "[41800000 41a00000 41c00000 41d20000] true"},
		{[]float32{0.3, -0.2, 0.1}, 2.3, 8, "[40133333 402072b0 40223aa8 40223c80 4022aacb 4022ab58 4022ae61 4022ae85] true"},
		{[]float32{0.9, -0.8, 0.7, -0.6, 0.5, -0.4}, 0.7, impl.MaxForth, "[3f333333 3fa22d0e 3fa22f59 3fa23220 3fa2357b 3fa2398b 3fa23e76 3fab3271 3fb480e8 3fb4828f 3fb48445 3fb48605 3fb487c8 3fb48984 3fb56843 3fb6962f 3fb696d1 3fb69763 3fb697e1 3fb6984a 3fb6989e 3fb6ad95 3fb6d35a 3fb6d389 3fb6d3ae 3fb6d3ca 3fb6d3dc 3fb6d3e7 3fb6d5ce 3fb6da77 3fb6da82 3fb6da8b] true"},
		{[]float32{0, 0, 0, 0, 0, 0.9}, 3, 14, "[40400000 40400000 40400000 40400000 40400000 40400000 40adc28f 40adc28f 40adc28f 40adc28f 40adc28f 40adc28f 40ecbede 40ecbede] true"},
		{repeated(float32(0.1), impl.MaxOrder+1), 1, 2, "[] false"},
		// Counts.
		{[]float32{0.5}, 4, 0, "[] true"},
		{[]float32{0.5}, 4, 1, "[40800000] true"},
		{[]float32{0.97}, 4, impl.MaxForth, "[40800000 40f86f6a 4134e058 416a2fc2 418e2c4e 41a5c549 41bbf93e 41d0dd47 41e4853f 41f703d3 4204354b 420c650a 421418ed 421b5846 422229f8 4228947f 422e9df3 42344c11 4239a43f 423eab91 424366ce 4247da76 424c0ac3 424ffbb1 4253b0fe 42572e30 425a7699 425d8d57 42607559 42633163 4265c40d 42682fca] true"},
		{[]float32{0.97}, 4, impl.MaxForth + 1, "[] false"},
		// A spread of 0, one that is less, and the least ones of both kinds.
		{[]float32{0.5}, 0, 3, "[00000000 00000000 00000000] true"},
		{[]float32{0.5}, minusZero, 2, "[80000000 80000000] true"},
		{[]float32{0.5}, -1, 3, "[] false"},
		{[]float32{0.5}, -1, 0, "[] false"},
		{[]float32{1.5}, fromBits(1), 4, "[00000001 00000003 00000008 00000014] true"},
		{[]float32{1.5}, -fromBits(1), 4, "[] false"},
		// The first, or the last, spread is not finite, or only just is.
		{[]float32{3e19}, 1, 2, "[] false"},
		{[]float32{3e19}, 0, 2, "[] false"},
		{[]float32{3e19}, 0, 1, "[00000000] true"},
		{[]float32{1e19}, 1, 2, "[3f800000 7e967699] true"},
		{[]float32{1e19}, 5, 2, "[] false"},
		{[]float32{1e19}, 3, 2, "[40400000 7f61b1e6] true"},
		{[]float32{1}, 3e38, 1, "[7f61b1e6] true"},
		{[]float32{1}, 3e38, 2, "[] false"},
	}
	for _, count := range append(farInts(), math.MaxInt64-impl.MaxForth) {
		rows = append(rows, spreadRow{[]float32{0.5}, 1, count, noNumbers})
	}
	for _, count := range []int64{0, 1, 2} {
		for _, wrong := range wrongTerms() {
			rows = append(rows, spreadRow{wrong, 1, count, noNumbers})
		}
		for _, x := range wrongNumbers() {
			rows = append(rows, spreadRow{[]float32{0.5}, x, count, noNumbers})
		}
	}
	for _, row := range rows {
		spreads, ok := impl.PastSpreads(row.terms, row.spread, row.count)
		expect(t, "spreads of "+shown(row.terms, row.spread, row.count), shown(spreads, ok), row.want)
	}
}
