package tests

import (
	"math"
	"testing"

	"loop.example/g01375/impl"
)

// The bits for these three series were computed outside of Go, each operation
// rounded on its own.

func wavy() []float32 {
	return []float32{3.1, -2.7, 8.25, 0.3, 1000, -47.11, 5.5, 0.07, 12.5, -3.3, 99.9, 1}
}

func steep() []float32 { return []float32{1e19, -3e18, 2.5e19, 7e17, -1e19, 5} }

func tiny() []float32 {
	return []float32{fromBits(1), fromBits(0x7fffff), -fromBits(3), fromBits(0x800001), -fromBits(2)}
}

func wrongSeries() [][]float32 {
	inf, nan := fromBits(infBits), fromBits(nanBits)
	return [][]float32{nil, {}, repeated(float32(1), impl.MaxLong+1), repeated(float32(1), 1000), {nan}, {inf}, {-inf},
		{1, 2, nan}, {inf, 1, 2}, {1, -inf, 2}, append(repeated(float32(1), impl.MaxLong-1), nan)}
}

const (
	noNumber  = "00000000 false"
	noNumbers = "[] false"
)

func sure(list ...float32) string { return shown(list, true) }

func TestSeriesLimits(t *testing.T) {
	limits := shown(impl.MaxLong, impl.MaxWorkers, impl.MaxFeasts, impl.FirstYear, impl.LastYear)
	expect(t, "limits", limits, "96 8 32 1900 2199")
}

func TestIsSeries(t *testing.T) {
	for _, list := range [][]float32{{1}, {fromBits(negZero)}, wavy(), steep(), tiny(), repeated(float32(3.4e38), impl.MaxLong)} {
		expect(t, "a series: "+shown(list), shown(impl.IsSeries(list)), "true")
	}
	for _, list := range wrongSeries() {
		expect(t, "a series: "+shown(list), shown(impl.IsSeries(list)), "false")
	}
}

func TestMeanOf(t *testing.T) {
	minusZero := fromBits(negZero)
	rows := []struct {
		list []float32
		want string
	}{
		{[]float32{1, 2, 4}, "40155555 true"}, {[]float32{1, 2, 6}, "40400000 true"}, {[]float32{-7}, "c0e00000 true"},
		{wavy(), "42b395c3 true"}, {steep(), "5e520468 true"}, {tiny(), "00333332 true"},
		{[]float32{minusZero}, "00000000 true"}, {[]float32{minusZero, minusZero}, "00000000 true"},
		{[]float32{1e8, 1, -1e8}, "00000000 true"}, {[]float32{1e8, -1e8, 1}, "3eaaaaab true"},
		{repeated(float32(0.1), impl.MaxLong), "3dcccccd true"}, {[]float32{3e38, -3e38, 3e38}, "7e967699 true"},
		{[]float32{3e38, 3e38}, noNumber}, {[]float32{3e38, 3e38, -3e38}, noNumber}, {[]float32{3e38}, "7f61b1e6 true"},
	}
	for _, row := range rows {
		mean, ok := impl.MeanOf(row.list)
		expect(t, "mean of "+shown(row.list), shown(mean, ok), row.want)
	}
}

func TestSpreadOf(t *testing.T) {
	rows := []struct {
		list []float32
		want string
	}{
		{[]float32{1, 3}, "3f800000 true"}, {[]float32{3}, "00000000 true"}, {[]float32{2, 2, 2}, "00000000 true"},
		{wavy(), "438a1f43 true"}, {tiny(), "00000000 true"}, {repeated(float32(0.1), impl.MaxLong), "00000000 true"},
		{[]float32{fromBits(negZero), 0}, "00000000 true"}, {[]float32{1, 2, 4}, "3f9fa4e1 true"},
		// The mean is finite, but not the sum of the squares, or a difference.
		{steep(), noNumber}, {[]float32{1e30, -1e30}, noNumber}, {[]float32{3e38, -3e38, 3e38}, noNumber},
		{[]float32{3e38, 3e38}, noNumber},
	}
	for _, row := range rows {
		spread, ok := impl.SpreadOf(row.list)
		expect(t, "spread of "+shown(row.list), shown(spread, ok), row.want)
	}
}

func TestMedianOf(t *testing.T) {
	minusZero := fromBits(negZero)
	rows := []struct {
		list []float32
		want string
	}{
		{[]float32{1, 2, 4}, "40000000 true"}, {[]float32{4, 1, 3, 2}, "40200000 true"}, {[]float32{-7}, "c0e00000 true"},
		{[]float32{9, -3, 9, 5, -3}, "40a00000 true"}, {[]float32{2, 2, 2, 2}, "40000000 true"},
		{wavy(), "40033333 true"}, {steep(), "5c9b6e65 true"}, {tiny(), "00000001 true"},
		{[]float32{3e38, 1, 3e38}, "7f61b1e6 true"}, {[]float32{3e38, -3e38}, "00000000 true"},
		{[]float32{3e38, 3e38}, noNumber}, {[]float32{1, 3e38, 3e38, 3e38}, noNumber}, {[]float32{1, -3e38, -3e38, -3e38}, noNumber},
		// The half of the sum, not the sum of the halves.
		{[]float32{fromBits(1), fromBits(2)}, "00000002 true"},
		{[]float32{minusZero}, "80000000 true"}, {[]float32{minusZero, minusZero}, "80000000 true"},
		{[]float32{minusZero, 0}, "00000000 true"}, {[]float32{0, minusZero}, "00000000 true"},
		// Equal numbers keep their order.
		{[]float32{0, minusZero, 1}, "80000000 true"}, {[]float32{minusZero, 1, 0}, "00000000 true"},
		{[]float32{-1, 0, minusZero}, "00000000 true"}, {[]float32{minusZero, 0, -1}, "80000000 true"},
		{[]float32{minusZero, 0, minusZero, minusZero, minusZero, -2, -1, minusZero, 0, 2, minusZero, minusZero, minusZero}, "80000000 true"},
	}
	for _, row := range rows {
		median, ok := impl.MedianOf(row.list)
		expect(t, "median of "+shown(row.list), shown(median, ok), row.want)
	}
	long := make([]float32, impl.MaxLong-1)
	for i := range long {
		long[i] = float32((i * 37) % len(long))
	}
	median, ok := impl.MedianOf(long)
	expect(t, "median of a long series", shown(median, ok), shown(float32(47), true))
	zeros := repeated(float32(0), impl.MaxLong-1)
	zeros[47] = minusZero
	median, ok = impl.MedianOf(zeros)
	expect(t, "median of zeros", shown(median, ok), "80000000 true")
}

func TestQuantileOf(t *testing.T) {
	rows := []struct {
		list  []float32
		share float32
		want  string
	}{
		{[]float32{1, 2, 4}, 0.75, "40400000 true"}, {[]float32{4, 2, 1}, 0.5, "40000000 true"},
		{[]float32{4, 2, 1}, 0, "3f800000 true"}, {[]float32{4, 2, 1}, 1, "40800000 true"},
		{[]float32{4, 2, 1}, fromBits(negZero), "3f800000 true"}, {[]float32{4, 2, 1}, fromBits(1), "3f800000 true"},
		{wavy(), 0, "c23c70a4 true"}, {wavy(), 0.1, "c04f5c29 true"}, {wavy(), 0.25, "bf1f5c2c true"}, {wavy(), 0.3, "3e0e5608 true"},
		{wavy(), 0.5, "40033333 true"}, {wavy(), 0.77, "4123f5c0 true"}, {wavy(), 0.9, "42b651e7 true"}, {wavy(), 1, "447a0000 true"},
		{steep(), 0.1, "deb46947 true"}, {steep(), 0.77, "5eeed633 true"}, {tiny(), 0.3, "80000001 true"}, {tiny(), 0.77, "007fffff true"},
		{[]float32{-5}, 0, "c0a00000 true"}, {[]float32{-5}, 0.3, "c0a00000 true"}, {[]float32{-5}, 1, "c0a00000 true"},
		{[]float32{1, 2, 3, 9}, fromBits(0x3f7fffff), "410ffffe true"}, {[]float32{1, 2, 9}, fromBits(0x3f7fffff), "410fffff true"},
		{[]float32{fromBits(negZero), fromBits(negZero)}, 0, "00000000 true"},
		{[]float32{fromBits(negZero), 5}, fromBits(negZero), "80000000 true"},
		{[]float32{fromBits(negZero), fromBits(negZero)}, 1, "80000000 true"},
		// The gap is not finite, even where none of it is taken.
		{[]float32{3e38, -3e38}, 0.5, noNumber}, {[]float32{3e38, -3e38}, 0, noNumber}, {[]float32{3e38, -3e38}, 1, "7f61b1e6 true"},
		{[]float32{1, 2}, -fromBits(1), noNumber}, {[]float32{1, 2}, fromBits(0x3f800001), noNumber}, {[]float32{1, 2}, -1, noNumber},
		{[]float32{1, 2}, fromBits(nanBits), noNumber}, {[]float32{1, 2}, fromBits(infBits), noNumber},
		{[]float32{1, 2}, fromBits(minusInf), noNumber}, {[]float32{1}, 2, noNumber},
	}
	for _, row := range rows {
		quantile, ok := impl.QuantileOf(row.list, row.share)
		expect(t, "quantile of "+shown(row.list, row.share), shown(quantile, ok), row.want)
	}
}

func TestRanksOf(t *testing.T) {
	rows := []struct{ list, want []float32 }{
		{[]float32{5, 1, 5}, []float32{2.5, 1, 2.5}}, {[]float32{7}, []float32{1}}, {[]float32{4, 4, 4, 4}, []float32{2.5, 2.5, 2.5, 2.5}},
		{[]float32{0, fromBits(negZero), -1, 0}, []float32{3, 3, 1, 3}}, {tiny(), []float32{3, 4, 1, 5, 2}},
		{wavy(), []float32{7, 3, 9, 5, 12, 1, 8, 4, 10, 2, 11, 6}},
		{[]float32{1, 1 + 0x1p-23, 1, 3e38, -3e38}, []float32{2.5, 4, 2.5, 5, 1}},
		{repeated(float32(2), impl.MaxLong), repeated(float32(48.5), impl.MaxLong)},
	}
	for _, row := range rows {
		ranks, ok := impl.RanksOf(row.list)
		expect(t, "ranks of "+shown(row.list), shown(ranks, ok), shown(row.want, true))
	}
}

func TestMovingMean(t *testing.T) {
	big, minusZero := float32(3e38), fromBits(negZero)
	rows := []struct {
		list []float32
		side int64
		want string
	}{
		{[]float32{1, 2, 6}, 1, sure(1.5, 3, 4)}, {[]float32{1, 2, 6}, 0, sure(1, 2, 6)}, {[]float32{1, 2, 6}, 2, sure(3, 3, 3)},
		{[]float32{1, 2, 6}, impl.MaxLong, sure(3, 3, 3)}, {[]float32{5}, 0, sure(5)}, {[]float32{5}, impl.MaxLong, sure(5)},
		{[]float32{1, 2, 6}, impl.MaxLong + 1, noNumbers}, {[]float32{1, 2, 6}, -1, noNumbers},
		{[]float32{1, 2, 6}, math.MaxInt64, noNumbers}, {[]float32{1, 2, 6}, math.MinInt64, noNumbers},
		{[]float32{minusZero, minusZero}, 0, sure(0, 0)}, {[]float32{1e8, 1, -1e8, 1}, 1, "[4c3ebc20 00000000 cbfe502b cc3ebc20] true"},
		{wavy(), 1, "[3e4cccc8 40388888 3ff9999b 43a81777 439edd71 439fbb4f c15d8bf3 40c0bf25 4045c28f 42117777 42022222 4249cccd] true"},
		{wavy(), 2, "[40388888 400f3333 4349ca3e 433fbf7d 43416354 433fc083 43423127 c0cef9db 41b778d5 41b045a2 41dc3333 42022222] true"},
		{steep(), 2, "[5f14079d 5ee2e6df 5e7c054a 5e0cff92 5e59e19b de2c15a7] true"},
		{tiny(), 1, "[00400000 002aaaaa 00555554 002aaaa9 00400000] true"},
		{[]float32{big, -big, big}, 1, "[00000000 7e967699 00000000] true"}, {[]float32{big, big, -big}, 0, sure(big, big, -big)},
		{[]float32{big, big, -big}, 1, noNumbers}, {[]float32{big, -big, big, big}, 1, noNumbers},
		{repeated(float32(0.5), impl.MaxLong), impl.MaxLong - 1, shown(repeated(float32(0.5), impl.MaxLong), true)},
	}
	for _, row := range rows {
		moving, ok := impl.MovingMean(row.list, row.side)
		expect(t, "moving mean of "+shown(row.list, row.side), shown(moving, ok), row.want)
	}
}

func TestMovingMedian(t *testing.T) {
	big, minusZero := float32(3e38), fromBits(negZero)
	rows := []struct {
		list []float32
		side int64
		want string
	}{
		{[]float32{1, 9, 2}, 1, sure(5, 2, 5.5)}, {[]float32{1, 9, 2}, 0, sure(1, 9, 2)}, {[]float32{1, 9, 2}, 2, sure(2, 2, 2)},
		{[]float32{1, 9, 2}, impl.MaxLong, sure(2, 2, 2)}, {[]float32{5}, 0, sure(5)}, {[]float32{5}, 3, sure(5)},
		{[]float32{1, 9, 2}, impl.MaxLong + 1, noNumbers}, {[]float32{1, 9, 2}, -1, noNumbers},
		{[]float32{1, 9, 2}, math.MaxInt64, noNumbers}, {[]float32{1, 9, 2}, math.MinInt64, noNumbers},
		{[]float32{minusZero, minusZero, 0}, 0, sure(minusZero, minusZero, 0)},
		{wavy(), 1, "[3e4cccc8 40466666 3e99999a 41040000 3e99999a 40b00000 3d8f5c29 40b00000 3d8f5c29 41480000 3f800000 4249cccd] true"},
		{wavy(), 3, "[3fd99999 40466666 3fd99999 40466666 3e99999a 40b00000 3e99999a 40b00000 3f800000 40500000 3f800000 40d80000] true"},
		{tiny(), 3, "[00400000 00000001 00000001 00000001 003ffffe] true"},
		// Two of them are in the middle at the ends only.
		{[]float32{big, big, 1}, 2, sure(big, big, big)}, {[]float32{big, big, 1}, 1, noNumbers}, {[]float32{1, big, big}, 1, noNumbers},
	}
	for _, row := range rows {
		moving, ok := impl.MovingMedian(row.list, row.side)
		expect(t, "moving median of "+shown(row.list, row.side), shown(moving, ok), row.want)
	}
}

func TestLagDifferences(t *testing.T) {
	minusZero := fromBits(negZero)
	rows := []struct {
		list []float32
		lag  int64
		want string
	}{
		{[]float32{1, 2, 4}, 1, sure(1, 2)}, {[]float32{1, 2, 4}, 2, sure(3)}, {[]float32{1, 2, 4}, 3, noNumbers},
		{[]float32{1, 2, 4}, 0, noNumbers}, {[]float32{1, 2, 4}, -1, noNumbers}, {[]float32{1, 2, 4}, math.MaxInt64, noNumbers},
		{[]float32{1, 2, 4}, math.MinInt64, noNumbers}, {[]float32{7}, 1, noNumbers}, {[]float32{7}, 0, noNumbers},
		{[]float32{0, minusZero, 0, 0}, 1, sure(minusZero, 0, 0)}, {[]float32{3, 3, 3}, 1, sure(0, 0)},
		{wavy(), 3, "[c0333333 447aaccd c25d70a4 40a66666 c479fb85 426e70a4 c10ccccd 42c7a8f6 c1380000] true"},
		{tiny(), 1, "[007ffffe 80800002 00800004 80800003] true"},
		{[]float32{-3e38, 3e38}, 1, noNumbers}, {[]float32{-3e38, 1, 3e38}, 1, sure(3e38, 3e38)}, {[]float32{-3e38, 1, 3e38}, 2, noNumbers},
	}
	for _, row := range rows {
		differences, ok := impl.LagDifferences(row.list, row.lag)
		expect(t, "differences of "+shown(row.list, row.lag), shown(differences, ok), row.want)
	}
	long, ok := impl.LagDifferences(repeated(float32(2), impl.MaxLong), impl.MaxLong-1)
	expect(t, "differences with the longest lag", shown(long, ok), sure(0))
}

func TestUndoDifferences(t *testing.T) {
	minusZero := fromBits(negZero)
	rows := []struct {
		firsts, differences []float32
		want                string
	}{
		{[]float32{1}, []float32{1, 2}, sure(1, 2, 4)}, {[]float32{1, 2}, []float32{3}, sure(1, 2, 4)},
		{[]float32{1, 10, 100}, []float32{1, 2, 3, 4, 5, 6, 7}, sure(1, 10, 100, 2, 12, 103, 6, 17, 109, 13)},
		{[]float32{1, 2, 3}, []float32{4}, sure(1, 2, 3, 5)},
		{[]float32{minusZero}, []float32{minusZero, 0, minusZero}, sure(minusZero, minusZero, 0, 0)},
		{wavy()[:2], wavy()[2:], "[40466666 c02ccccd 4135999a c019999a 447cd666 c2460a3e 447e3666 c245c290 4480ab33 c252f5c3 448d2800 c24ef5c3] true"},
		{[]float32{3e38}, []float32{-3e38, 3e38}, sure(3e38, 0, 3e38)}, {[]float32{3e38}, []float32{3e38}, noNumbers},
		{[]float32{1, 3e38}, []float32{1, 1, 1, 3e38, 3e38}, noNumbers},
	}
	for _, row := range rows {
		list, ok := impl.UndoDifferences(row.firsts, row.differences)
		expect(t, "undone "+shown(row.firsts, row.differences), shown(list, ok), row.want)
	}
	for firsts := 1; firsts < impl.MaxLong; firsts++ {
		list, ok := impl.UndoDifferences(repeated(float32(2), firsts), repeated(float32(0), impl.MaxLong-firsts))
		expect(t, "as many as a series has", shown(list, ok), shown(repeated(float32(2), impl.MaxLong), true))
		list, ok = impl.UndoDifferences(repeated(float32(2), firsts), repeated(float32(0), impl.MaxLong-firsts+1))
		expect(t, "more than a series has", shown(list, ok), noNumbers)
	}
	for _, wrong := range wrongSeries() {
		list, ok := impl.UndoDifferences(wrong, []float32{1})
		expect(t, "wrong firsts "+shown(wrong), shown(list, ok), noNumbers)
		list, ok = impl.UndoDifferences([]float32{1}, wrong)
		expect(t, "wrong differences "+shown(wrong), shown(list, ok), noNumbers)
	}
}

func TestRunningSums(t *testing.T) {
	minusZero := fromBits(negZero)
	rows := []struct {
		list []float32
		want string
	}{
		{[]float32{1, 2, 4}, sure(1, 3, 7)}, {[]float32{-5}, sure(-5)}, {[]float32{minusZero, minusZero}, sure(0, 0)},
		{[]float32{1e8, 1, -1e8, 1}, sure(1e8, 1e8, 0, 1)},
		{wavy(), "[40466666 3eccccc8 410a6666 410f3333 447c3ccd 447075c3 4471d5c3 4471da3e 4474fa3e 4474270b 44869052 4486b052] true"},
		{tiny(), "[00000001 00800000 007ffffd 00fffffe 00fffffc] true"},
		{[]float32{3e38, -3e38, 3e38}, sure(3e38, 0, 3e38)}, {[]float32{3e38, 3e38, -3e38}, noNumbers}, {[]float32{1, 3e38, 3e38}, noNumbers},
	}
	for _, row := range rows {
		sums, ok := impl.RunningSums(row.list)
		expect(t, "running sums of "+shown(row.list), shown(sums, ok), row.want)
	}
}
