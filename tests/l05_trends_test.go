package tests

import (
	"math"
	"testing"

	"loop.example/g01375/impl"
)

const (
	zeroTrend = "00000000 00000000 00000000 00000000 00000000 00000000 00000000 00000000"
	noTrend   = zeroTrend + " 00000000 false"
	noTrends  = zeroTrend + " [] false"
)

func trendOf(level, slope, a, b, c, noise, drift, turn float32) impl.Trend {
	return impl.Trend{Level: level, Slope: slope, A: a, B: b, C: c, Noise: noise, Drift: drift, Turn: turn}
}

// trendBy returns a trend of eight numbers in order.
func trendBy(n [8]float32) impl.Trend {
	return trendOf(n[0], n[1], n[2], n[3], n[4], n[5], n[6], n[7])
}

func slowTrend() impl.Trend { return trendOf(1, 0.5, 2, 0.25, 0.75, 1.5, 0.1, 0.2) }

func wrongTrends() []impl.Trend {
	wrong := []impl.Trend{{}, trendOf(1, 1, 1, 1, 1, 0, 1, 1), trendOf(1, 1, 1, 1, 1, fromBits(negZero), 1, 1)}
	for place := range 8 {
		for _, x := range wrongNumbers() {
			n := [8]float32{1, 1, 1, 1, 1, 1, 1, 1}
			n[place] = x
			wrong = append(wrong, trendBy(n))
		}
		// The level, the slope and B may be less than 0.
		for _, x := range []float32{-1, -fromBits(1), -3e38} {
			n := [8]float32{1, 1, 1, 1, 1, 1, 1, 1}
			n[place] = x
			if place != 0 && place != 1 && place != 3 {
				wrong = append(wrong, trendBy(n))
			}
		}
	}
	return wrong
}

func TestValidTrend(t *testing.T) {
	minusZero := fromBits(negZero)
	for _, valid := range []impl.Trend{slowTrend(), trendOf(0, 0, 0, 0, 0, fromBits(1), 0, 0), trendOf(-1, -2, 0, -3, 0, 1, 0, 0),
		trendOf(minusZero, minusZero, minusZero, minusZero, minusZero, 1, minusZero, minusZero), trendOf(-3e38, -3e38, 3e38, -3e38, 3e38, 3e38, 3e38, 3e38)} {
		expect(t, "valid "+shown(valid), shown(impl.ValidTrend(valid)), "true")
	}
	for _, wrong := range wrongTrends() {
		expect(t, "valid "+shown(wrong), shown(impl.ValidTrend(wrong)), "false")
	}
}

func TestSameTrend(t *testing.T) {
	pairs := [][2]float32{{1, 2}, {0, fromBits(negZero)}, {fromBits(nanBits), 0}, {fromBits(infBits), fromBits(minusInf)}, {1, fromBits(0x3f800001)}, {-1, 1}}
	for _, pair := range pairs {
		x, y := pair[0], pair[1]
		n := [8]float32{x, x, x, x, x, x, x, x}
		same := trendBy(n)
		expect(t, "the same "+shown(same), shown(impl.SameTrend(same, same)), "true")
		for place := range n {
			others := n
			others[place] = y
			other := trendBy(others)
			expect(t, "the same "+shown(same, other), shown(impl.SameTrend(same, other), impl.SameTrend(other, same)), "false false")
		}
	}
	nan, other := fromBits(nanBits), fromBits(0xffc00001)
	expect(t, "the same without numbers", shown(impl.SameTrend(trendBy([8]float32{nan, other, nan, nan, other, nan, other, nan}),
		trendBy([8]float32{other, nan, nan, other, nan, other, other, nan}))), "true")
	expect(t, "the same in all", shown(impl.SameTrend(slowTrend(), slowTrend()), impl.SameTrend(impl.Trend{}, impl.Trend{})), "true true")
	expect(t, "the same exchanged", shown(impl.SameTrend(trendOf(1, 2, 3, 4, 5, 6, 7, 8), trendOf(2, 1, 4, 3, 6, 5, 8, 7))), "false")
}

type trendRow struct {
	trend impl.Trend
	x     float32
	seen  bool
	want  string
}

func TestTrendStep(t *testing.T) {
	minusZero := fromBits(negZero)
	rows := []trendRow{
		{trendOf(1, 2, 1, 0, 0, 1, 0, 0), 5, true, "40800000 40000000 3f000000 00000000 00000000 3f800000 00000000 00000000 40400000 true"},
		{trendOf(1, 2, 1, 0, 0, 1, 0, 0), 5, false, "40400000 40000000 3f800000 00000000 00000000 3f800000 00000000 00000000 40400000 true"},
		{trendOf(1, 2, 1, 0.5, 0.25, 1, 0.5, 0.125), 5, true, "408eeeef 4019999a 3f3bbbbc 3e4ccccc 3e666666 3f800000 3f000000 3e000000 40400000 true"},
		{trendOf(1, 2, 1, 0.5, 0.25, 1, 0.5, 0.125), 5, false, "40400000 40000000 40300000 3f400000 3ec00000 3f800000 3f000000 3e000000 40400000 true"},
		{trendOf(-3, 2, 4, -1, 1, 2, 1, 1), -7, true, "c0a00000 40000000 3faaaaaa 00000000 40000000 40000000 3f800000 3f800000 bf800000 true"},
		{slowTrend(), 7.7, true, "40b90a07 3fe3a0fd 3f849e5a 3e9e59bc 3f3e6a9f 3fc00000 3dcccccd 3e4ccccd 3fc00000 true"},
		{slowTrend(), -0.1, true, "3eca292c 3e2e2f82 3f849e5a 3e9e59bc 3f3e6a9f 3fc00000 3dcccccd 3e4ccccd 3fc00000 true"},
		{slowTrend(), 1.5, true, "3fc00000 3f000000 3f849e5a 3e9e59bc 3f3e6a9f 3fc00000 3dcccccd 3e4ccccd 3fc00000 true"},
		{slowTrend(), 7.7, false, "3fc00000 3f000000 40566666 3f800000 3f733333 3fc00000 3dcccccd 3e4ccccd 3fc00000 true"},
		{trendOf(0.1, 0.7, 0.3, 0.9, 0.77, 0.6, 0.01, 0.03), 0.2, true, "3e9b5d93 3ed2fab4 3efe3c08 3e936bb4 00000000 3f19999a 3c23d70a 3cf5c28f 3f4ccccd true"},
		{trendOf(0.1, 0.7, 0.3, 0.9, 0.77, 0.6, 0.01, 0.03), 0.2, false, "3f4ccccd 3f333333 403851eb 3fd5c28f 3f4ccccc 3f19999a 3c23d70a 3cf5c28f 3f4ccccd true"},
		// The sums of A and B, and of B and C, come first.
		{trendOf(1, 1, 1e8, -1e8, 1e8, 1, 1, 1), 3, false, "40000000 3f800000 3f800000 00000000 4cbebc20 3f800000 3f800000 3f800000 40000000 true"},
		{trendOf(1, 1, 1e8, 3, -3, 1, 1, 1), 3, false, "00000000 00000000 00000000 00000000 00000000 00000000 00000000 00000000 00000000 false"},
		{trendOf(1, 1, 1e8, 3, 3, 1, 3, 3), 3, false, "40000000 3f800000 4cbebc21 40c00000 40c00000 3f800000 40400000 40400000 40000000 true"},
		{trendOf(1, 1, 3, 1e8, 3, 1, 3, 1e8), 3, true, "40400000 3fc00000 00000000 00000000 4c3ebc20 3f800000 40400000 4cbebc20 40000000 true"},
		// Zeros of both signs.
		{trendOf(minusZero, minusZero, minusZero, minusZero, minusZero, 1, minusZero, minusZero), minusZero, false, "80000000 80000000 80000000 80000000 80000000 3f800000 80000000 80000000 80000000 true"},
		{trendOf(minusZero, minusZero, minusZero, minusZero, minusZero, 1, minusZero, minusZero), minusZero, true, "80000000 80000000 80000000 80000000 80000000 3f800000 80000000 80000000 80000000 true"},
		{trendOf(minusZero, 0, 0, 0, 0, 1, 0, 0), minusZero, true, "00000000 00000000 00000000 00000000 00000000 3f800000 00000000 00000000 00000000 true"},
		{trendOf(0, 0, 0, 0, 0, 1, 0, 0), 5, true, "00000000 00000000 00000000 00000000 00000000 3f800000 00000000 00000000 00000000 true"},
		{trendOf(0, 0, 1, minusZero, minusZero, 1, minusZero, minusZero), 5, true, "40200000 00000000 3f000000 00000000 80000000 3f800000 80000000 80000000 00000000 true"},
		// Spreads that fall below 0 where a number was seen, or was not.
		{trendOf(0, 0, 1, 3, 1, 1, 0, 0), 5, true, "408e38e4 400e38e4 3f638e38 3ee38e38 00000000 3f800000 00000000 00000000 00000000 true"},
		{trendOf(0, 0, 1, 30, 1, 1, 0, 0), 5, true, "409d75d7 401d75d7 3f7befc0 3efbefc0 00000000 3f800000 00000000 00000000 00000000 true"},
		{trendOf(0, 0, 1, -3, 1, 1, 0, 0), 5, true, "40d55556 40555556 3faaaaac 3f2aaaac 40155556 3f800000 00000000 00000000 00000000 true"},
		{trendOf(0, 0, 1, -3, 1, 1, 0, 0), 5, false, "00000000 00000000 00000000 00000000 00000000 00000000 00000000 00000000 00000000 false"},
		{trendOf(0, 0, 1, -1, 1, 1, 0, 0), 5, false, "00000000 00000000 00000000 00000000 3f800000 3f800000 00000000 00000000 00000000 true"},
		{trendOf(0, 0, 1, -1, 1, 1, 0, 0), 5, true, "00000000 00000000 00000000 00000000 3f800000 3f800000 00000000 00000000 00000000 true"},
		{trendOf(0, 0, 1, -0.75, 0.25, 0.5, 0, 0), 5, true, "c0a00000 c1200000 00000000 bf800000 00000000 3f000000 00000000 00000000 00000000 true"},
		{trendOf(0, 0, 1, -1, 0.5, 0.25, 0, 0), 5, true, "41200000 41200000 3f000000 3f000000 3fc00000 3e800000 00000000 00000000 00000000 true"},
		{trendOf(0, 0, 1, -1, 0.5, 1, 0, 0), 5, true, "c0a00000 c0a00000 00000000 bf800000 00000000 3f800000 00000000 00000000 00000000 true"},
		{trendOf(0, 0, 1, -1, 0.5, 0.5, 0, 0), 5, true, "00000000 00000000 00000000 00000000 00000000 00000000 00000000 00000000 00000000 false"},
		{trendOf(0, 0, 1, -1, 0.5, 0.5, 0, 0), 0, true, "00000000 00000000 00000000 00000000 00000000 00000000 00000000 00000000 00000000 false"},
		{trendOf(0, 0, 1, -2, 0.5, 1, 0, 0), 5, true, "41055555 40a00000 3fd55554 3f800000 40000000 3f800000 00000000 00000000 00000000 true"},
		{trendOf(0, 0, 1, -5, 0.5, 1, 0, 0), 5, true, "40b55555 40400000 3f911110 3f199998 404ccccd 3f800000 00000000 00000000 00000000 true"},
		{trendOf(0, 0, 1, 0, 0, fromBits(1), 0, 0), 5, true, "40a00000 00000000 00000000 00000000 00000000 00000001 00000000 00000000 00000000 true"},
		{trendOf(0, 0, fromBits(5), fromBits(2), fromBits(3), fromBits(4), fromBits(1), fromBits(2)), fromBits(50), true, "00000026 0000000f 00000003 00000001 00000004 00000004 00000001 00000002 00000000 true"},
		// What was expected, a spread, the difference, or what becomes of them is not
		// finite, or only just is.
		{trendOf(3e38, 3e38, 1, 0, 0, 1, 0, 0), 5, true, "00000000 00000000 00000000 00000000 00000000 00000000 00000000 00000000 00000000 false"},
		{trendOf(3e38, 3e38, 1, 0, 0, 1, 0, 0), 5, false, "00000000 00000000 00000000 00000000 00000000 00000000 00000000 00000000 00000000 false"},
		{trendOf(3e38, 3e38, 0, 0, 0, 1, 0, 0), 3e38, true, "00000000 00000000 00000000 00000000 00000000 00000000 00000000 00000000 00000000 false"},
		{trendOf(3e38, 3e37, 1, 0, 0, 1, 0, 0), 3e38, true, "7f6cfacb 7db48e52 3f000000 00000000 00000000 3f800000 00000000 00000000 7f7843b0 true"},
		{trendOf(0, 0, 2e38, 1e38, 0, 1, 0, 0), 5, false, "00000000 00000000 00000000 00000000 00000000 00000000 00000000 00000000 00000000 false"},
		{trendOf(0, 0, 2e38, 0.5e38, 0, 1, 0, 0), 5, false, "00000000 00000000 7f61b1e5 7e167699 00000000 3f800000 00000000 00000000 00000000 true"},
		{trendOf(0, 0, 0, 2e38, 2e38, 1, 0, 0), 5, false, "00000000 00000000 00000000 00000000 00000000 00000000 00000000 00000000 00000000 false"},
		{trendOf(0, 0, 0, -2e38, 2e38, 1, 2e38, 2e38), 5, false, "00000000 00000000 00000000 00000000 00000000 00000000 00000000 00000000 00000000 false"},
		{trendOf(0, 0, 0, 0, 1e38, 1, 0, 2e38), 5, false, "00000000 00000000 7e967699 7e967699 7f61b1e6 3f800000 00000000 7f167699 00000000 true"},
		{trendOf(0, 0, 2e38, 0, 0, 2e38, 0, 0), 5, true, "00000000 00000000 7f167699 00000000 00000000 7f167699 00000000 00000000 00000000 true"},
		{trendOf(0, 0, 2e38, 0, 0, 1e38, 0, 0), 5, true, "40555554 00000000 7e489e22 00000000 00000000 7e967699 00000000 00000000 00000000 true"},
		{trendOf(-3e38, 0, 1, 0, 0, 1, 0, 0), 3e38, true, "00000000 00000000 00000000 00000000 00000000 00000000 00000000 00000000 00000000 false"},
		{trendOf(-3e38, 0, 1, 0, 0, 1, 0, 0), 3e38, false, "ff61b1e6 00000000 3f800000 00000000 00000000 3f800000 00000000 00000000 ff61b1e6 true"},
		{trendOf(0, 3e38, 1, 100, 10000, 1, 0, 0), 3.1e38, true, "7f6937a4 7f692493 3f800000 3f7d8000 3f7b0000 3f800000 00000000 00000000 7f61b1e6 true"},
		{trendOf(0, 1, 1, 0, 0, 1, 0, 0), 3e38, true, "7ee1b1e6 3f800000 3f000000 00000000 00000000 3f800000 00000000 00000000 3f800000 true"},
	}
	for _, seen := range []bool{false, true} {
		for _, x := range wrongNumbers() {
			rows = append(rows, trendRow{slowTrend(), x, seen, noTrend})
		}
		for _, wrong := range wrongTrends() {
			rows = append(rows, trendRow{wrong, 1, seen, noTrend})
		}
	}
	for _, row := range rows {
		next, expected, ok := impl.TrendStep(row.trend, row.x, row.seen)
		expect(t, "trend step of "+shown(row.trend, row.x, row.seen), shown(next, expected, ok), row.want)
	}
}

func TestTrendRun(t *testing.T) {
	rows := []struct {
		trend impl.Trend
		list  []float32
		seen  []bool
		want  string
	}{
		{trendOf(1, 2, 1, 0, 0, 1, 0, 0), []float32{9, 9}, marks("--"), "40a00000 40000000 3f800000 00000000 00000000 3f800000 00000000 00000000 [40400000 40a00000] true"},
		{trendOf(1, 2, 1, 0, 0, 1, 0, 0), []float32{9}, marks("k"), "40c00000 40000000 3f000000 00000000 00000000 3f800000 00000000 00000000 [40400000] true"},
		{trendOf(1, 2, 1, 0.5, 0.25, 1, 0.5, 0.125), []float32{5, 2, 9}, marks("k-k"), "4110ef9f 4016b2c8 3f47d6d0 3e2e1944 3eafbc9c 3f800000 3f000000 3e000000 [40400000 40dbbbbc 41144444] true"},
		{slowTrend(), rough(), repeated(true, 12), "c026df5b c02ce0f9 3f6460da 3eb28a00 3f02fe3d 3fc00000 3dcccccd 3e4ccccd [3fc00000 3f8d3225 40db6ab2 be8b5678 411980e6 40718312 c0cc444a c007ec4b 4167f414 40bf3e46 40c336df 4017c459] true"},
		{slowTrend(), rough(), repeated(false, 12), "40e00000 3f000000 435a6667 41b3999a 4049999b 3fc00000 3dcccccd 3e4ccccd [3fc00000 40000000 40200000 40400000 40600000 40800000 40900000 40a00000 40b00000 40c00000 40d00000 40e00000] true"},
		{slowTrend(), rough(), marks("k-kk--kkk--k"), "c095876c c04c799c 3fa4dafc 3eb95710 3f055e4d 3fc00000 3dcccccd 3e4ccccd [3fc00000 3f8d3225 3fb2cddb c0554a9f 4112dbd8 413d23cc 41676bc0 4066778f 41833dfe 40a7e374 408a25ca 4058d03f] true"},
		{slowTrend(), rough(), marks("--kkkkkk----"), "41ddf49a 4088525a 41728956 40672a16 3fa84a1c 3fc00000 3dcccccd 3e4ccccd [3fc00000 40000000 40200000 c060b60c 4113079e 408094e0 c0c392bd bfdaf417 416f6db0 4199cb6e 41bbe004 41ddf49a] true"},
		{trendOf(3, -1, 0, 0, 0, 2.2, 0, 0), wavy(), repeated(true, 12), "c1100000 bf800000 00000000 00000000 00000000 400ccccd 00000000 00000000 [40000000 3f800000 00000000 bf800000 c0000000 c0400000 c0800000 c0a00000 c0c00000 c0e00000 c1000000 c1100000] true"},
		{trendOf(40000, 0, 1e9, 0, 1e6, 1e8, 1e7, 1e4), wholeNumbers(impl.MaxLong), repeated(true, impl.MaxLong), "477ef958 440a688a 4bdebdbf 494e30c6 48a9e76e 4cbebc20 4b189680 461c4000 [471c4000 455ec5c1 45b445fe 467a1ce9 470bb4a8 4703a39a 475acecd 478435af 479668da 475c999b 474f5afb 47839409 4781b050 476951b0 4753bdee 4755a93b 477c7b93 475380b7 4781647b 478417af 47819921 47852f38 4796e889 477e272c 47904647 478baa4b 4780f737 4777025a 47836f92 47445ba6 47520fb1 4734810b 470aaf76 46d61587 46cb9583 4706a312 46bd0900 470bbb07 4712824c 47103ab3 471a36a1 473feaf6 4715c72b 473b1c10 47365fb9 4725d40d 471f77af 473342f6 476cc9d8 475e36b4 472deb77 476df28c 478e241f 475a635c 474f87dc 477f698f 4776cad6 4757b8a3 473aff12 4732a8c3 474bd1cd 471a4502 473ab415 4733c43c 4722cd4f 471d2df4 47327221 476de546 47622707 4735317e 4702b2fa 46bda8a4 46b07ff4 46f33a86 46aa5419 4705f8a0 4711f948 4715c28e 47262866 47525373 472fdb82 475c2715 475ef7ea 47562993 47577dfb 4772cbf8 473e34dc 47576eb4 4746898f 47298fef 47166649 471cfce0 4748ea68 472d3d30 47655c53 4777b7ee] true"},
		{trendOf(40000, 0, 1e9, 0, 1e6, 1e8, 1e7, 1e4), wholeNumbers(impl.MaxLong + 1), repeated(true, impl.MaxLong+1), "00000000 00000000 00000000 00000000 00000000 00000000 00000000 00000000 [] false"},
		// The first, or the last, trend is not valid, or only just is.
		{trendOf(3e38, 3e38, 1, 0, 0, 1, 0, 0), []float32{1}, marks("k"), "00000000 00000000 00000000 00000000 00000000 00000000 00000000 00000000 [] false"},
		{trendOf(0, 2e38, 1, 0, 0, 1, 0, 0), []float32{1, 1}, marks("--"), "00000000 00000000 00000000 00000000 00000000 00000000 00000000 00000000 [] false"},
		{trendOf(0, 2e38, 1, 0, 0, 1, 0, 0), []float32{1}, marks("-"), "7f167699 7f167699 3f800000 00000000 00000000 3f800000 00000000 00000000 [7f167699] true"},
		{trendOf(0, 0, 1, -1, 0.25, 1, 0, 0), []float32{1, 1}, marks("k-"), "00000000 00000000 00000000 00000000 00000000 00000000 00000000 00000000 [] false"},
		{trendOf(0, 0, 1, -1, 0.25, 1, 0, 0), []float32{1, 1}, marks("-k"), "00000000 00000000 00000000 00000000 00000000 00000000 00000000 00000000 [] false"},
		{trendOf(0, 0, 0, 0, 1e38, 1, 0, 0), []float32{1, 1, 1}, marks("---"), "00000000 00000000 00000000 00000000 00000000 00000000 00000000 00000000 [] false"},
		{trendOf(0, 0, 0, 0, 1e38, 1, 0, 0), []float32{1}, marks("-"), "00000000 00000000 7e967699 7e967699 7e967699 3f800000 00000000 00000000 [00000000] true"},
	}
	for _, row := range rows {
		last, expected, ok := impl.TrendRun(row.trend, row.list, row.seen)
		expect(t, "trend run of "+shown(row.trend, row.list, row.seen), shown(last, expected, ok), row.want)
	}
	for _, row := range wrongRuns() {
		last, expected, ok := impl.TrendRun(slowTrend(), row.list, row.seen)
		expect(t, "trend run of "+shown(row.list, row.seen), shown(last, expected, ok), noTrends)
	}
	for _, wrong := range wrongTrends() {
		for _, text := range []string{"k", "--"} {
			last, expected, ok := impl.TrendRun(wrong, repeated(float32(1), len(text)), marks(text))
			expect(t, "trend run of "+shown(wrong), shown(last, expected, ok), noTrends)
		}
	}
}

type trendAheadRow struct {
	trend impl.Trend
	count int64
	want  string
}

func TestTrendAhead(t *testing.T) {
	minusZero := fromBits(negZero)
	rows := []trendAheadRow{
		{trendOf(1, 2, 1, 0, 0, 1, 0, 0), 2, "[40400000 40a00000] true"},
		{slowTrend(), 5, "[3fc00000 40000000 40200000 40400000 40600000] true"},
		{trendOf(0.1, 0.7, 0.3, 0.9, 0.77, 0.6, 0.01, 0.03), 12, "[3f4ccccd 3fc00000 400ccccc 40399999 40666666 40899999 40a00000 40b66666 40cccccc 40e33333 40f99999 41080000] true"},
		{trendOf(-7.7, -1.3, 0, 0, 0, 1, 0, 0), impl.MaxForth, "[c1100000 c124cccc c1399999 c14e6666 c1633333 c1780000 c1866666 c190cccc c19b3333 c1a5999a c1b00000 c1ba6666 c1c4cccc c1cf3332 c1d9999a c1e40000 c1ee6666 c1f8cccc c2019999 c206cccd c20c0000 c2113333 c2166666 c21b9999 c220cccd c2260000 c22b3333 c2306666 c2359999 c23acccd c2400000 c2453333] true"},
		{slowTrend(), 0, "[] true"},
		{slowTrend(), 1, "[3fc00000] true"},
		{slowTrend(), impl.MaxForth + 1, "[] false"},
		{trendOf(minusZero, minusZero, 0, 0, 0, 1, 0, 0), 2, "[80000000 80000000] true"},
		{trendOf(1e8, 3, 0, 0, 0, 1, 0, 0), 6, "[4cbebc20 4cbebc21 4cbebc21 4cbebc22 4cbebc22 4cbebc22] true"},
		{trendOf(3, fromBits(1), 0, 0, 0, 1, 0, 0), 2, "[40400000 40400000] true"},
		{trendOf(fromBits(2), fromBits(3), 0, 0, 0, 1, 0, 0), 4, "[00000005 00000008 0000000b 0000000e] true"},
		// The first, or the last, number is not finite, or only just is.
		{trendOf(3e38, 3e38, 0, 0, 0, 1, 0, 0), 1, "[] false"},
		{trendOf(3e38, 3e38, 0, 0, 0, 1, 0, 0), 0, "[] true"},
		{trendOf(0, 1e38, 0, 0, 0, 1, 0, 0), 4, "[] false"},
		{trendOf(0, 1e38, 0, 0, 0, 1, 0, 0), 3, "[7e967699 7f167699 7f61b1e6] true"},
		{trendOf(-3e38, 2e38, 0, 0, 0, 1, 0, 0), 2, "[] false"},
		{trendOf(-3e38, 1.5e38, 0, 0, 0, 1, 0, 0), 2, "[fee1b1e6 00000000] true"},
	}
	for _, count := range append(farInts(), math.MaxInt64-impl.MaxForth) {
		rows = append(rows, trendAheadRow{slowTrend(), count, noNumbers})
	}
	for _, wrong := range wrongTrends() {
		rows = append(rows, trendAheadRow{wrong, 0, noNumbers}, trendAheadRow{wrong, 1, noNumbers})
	}
	for _, row := range rows {
		ahead, ok := impl.TrendAhead(row.trend, row.count)
		expect(t, "trend ahead of "+shown(row.trend, row.count), shown(ahead, ok), row.want)
	}
}
