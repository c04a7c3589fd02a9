package tests

import (
	"math"
	"slices"
	"testing"

	"loop.example/g01375/impl"
)

const (
	noFold   = "[] 00000000 false"
	noPeriod = "0 00000000 false"
	noWaves  = "[] [] false"
)

func TestFoldedBy(t *testing.T) {
	rows := []struct {
		list   []float32
		period int64
		want   string
	}{
		{[]float32{1, 5, 1, 5}, 2, "[3f800000 40a00000] 00000000 true"}, {[]float32{1, 5, 1, 5}, 1, "[40400000] 41800000 true"}, {[]float32{1, 5, 1, 5}, 4, "[3f800000 40a00000 3f800000 40a00000] 00000000 true"},
		{[]float32{1, 5, 1, 5}, 3, "[40400000 40a00000 3f800000] 41000000 true"}, {[]float32{7}, 1, "[40e00000] 00000000 true"}, {[]float32{fromBits(negZero), 1}, 2, "[00000000 3f800000] 00000000 true"},
		{wavy(), 1, "[42b395c3] 495f912a true"}, {wavy(), 5, "[41950a3d 3fa22222 40851eb8 40cccccd 43f92ccd] 48fb46d9 true"}, {rough(), 3, "[40a1999a 40dae148 c0933333] 43a9214e true"}, {rough(), 7, "[411c0000 4051999a 3f8ccccd 40d1999a c03fae14 c1066666 400ccccd] 439f74a6 true"}, {rough(), 12, "[3f000000 40e80000 c0533333 41400000 3c23d70a c1066666 400ccccd 41980000 bf333333 40b00000 3f8ccccd c0c00000] 00000000 true"},
		{tiny(), 2, "[80000001 00800000] 00000000 true"}, {wholeNumbers(impl.MaxLong), 7, "[4729896e 47297b25 474b63c9 47577537 4731c85b 475ed527 473acbd9] 517ce3e7 true"}, {repeated(float32(0.3), 6), 1, "[3e999999] 27c00000 true"},
		{repeated(float32(0.3), 12), 2, "[3e999999 3e999999] 28400000 true"}, {steep(), 6, "[5f0ac723 de268890 5fad78ec 5d1b6e65 df0ac723 40a00000] 00000000 true"}, {[]float32{3e38, 3e38}, 2, "[7f61b1e6 7f61b1e6] 00000000 true"},
		// In the order of the places, not of the remainders.
		{[]float32{4096, 1, -4096, 0.5, 4096, 0.7}, 2, "[44aaaaab 3f3bbbbc] 4c2aaaab true"}, {[]float32{0, 5000, 0.3, -5000, 0.9, 5000.5}, 2, "[3ecccccd 44d05aab] 4c7e536c true"},
		{[]float32{1, 5}, 0, noFold}, {[]float32{1, 5}, 3, noFold}, {[]float32{1, 5}, -1, noFold}, {[]float32{1, 5}, math.MaxInt64, noFold}, {[]float32{1, 5}, math.MinInt64, noFold},
		// A mean, or the sum of squares, is not finite.
		{[]float32{3e38, 1, 3e38}, 2, noFold}, {[]float32{1, 3e38, 1, 3e38}, 2, noFold}, {[]float32{1e20, 1, -1e20}, 2, noFold}, {steep(), 1, noFold},
	}
	for _, row := range rows {
		means, squares, ok := impl.FoldedBy(row.list, row.period)
		expect(t, "folded "+shown(row.list, row.period), shown(means, squares, ok), row.want)
	}
	whole := wholeNumbers(impl.MaxLong)
	means, squares, ok := impl.FoldedBy(whole, impl.MaxLong)
	expect(t, "folded by the longest period", shown(means, squares, ok), shown(whole, float32(0), true))
}

func TestBestPeriod(t *testing.T) {
	weeks := slices.Repeat([]float32{5, 1, 1, 2, 1, 1, 8}, 13)
	rows := []struct {
		list      []float32
		low, high int64
		want      string
	}{
		{[]float32{1, 5, 1, 5}, 2, 2, "2 00000000 true"}, {weeks, 2, 45, "7 00000000 true"}, {weeks, 8, 45, "14 00000000 true"}, {weeks, 2, 6, "6 44128aed true"},
		// The first one of several.
		{repeated(float32(2), 12), 2, 6, "2 00000000 true"}, {repeated(float32(2), 12), 4, 6, "4 00000000 true"}, {repeated(float32(0.1), impl.MaxLong), 2, 48, "16 00000000 true"},
		{wavy(), 2, 6, "6 48c65fb1 true"}, {wavy(), 2, 5, "5 48fb46d9 true"}, {wavy(), 6, 6, "6 48c65fb1 true"}, {rough(), 2, 6, "6 42c4e91e true"}, {rough()[:11], 2, 5, "4 433d3baa true"},
		{rough(), 2, 4, "3 43a9214e true"}, {tiny(), 2, 2, "2 00000000 true"}, {wholeNumbers(impl.MaxLong), 2, 48, "44 50a978d9 true"}, {wholeNumbers(impl.MaxLong), 5, 30, "30 510cdf33 true"},
		{wavy(), 1, 6, noPeriod}, {wavy(), 2, 7, noPeriod}, {rough()[:11], 2, 6, noPeriod}, {wavy(), 5, 4, noPeriod}, {wavy(), 0, 0, noPeriod}, {wavy(), -1, 3, noPeriod}, {wavy(), 2, 1, noPeriod}, {wavy(), 7, 7, noPeriod},
		{wavy(), 2, math.MaxInt64, noPeriod}, {wavy(), math.MinInt64, math.MaxInt64, noPeriod}, {wavy(), math.MaxInt64, math.MinInt64, noPeriod}, {wavy(), math.MinInt64, 6, noPeriod},
		{[]float32{1, 2, 3}, 2, 2, noPeriod}, {[]float32{1, 2, 3}, 1, 1, noPeriod}, {[]float32{1}, 0, 0, noPeriod}, {[]float32{1}, 2, 2, noPeriod},
		// The first, the last, or one between them fails, though others do not.
		{[]float32{1e20, 1, 1, -1e20, 1, 1}, 2, 3, noPeriod}, {[]float32{1e20, 1, 1e20, 1, 1, 1, 1e20, 1}, 2, 4, noPeriod}, {[]float32{1e20, 1, 1e20, 1, 1e20, 1}, 2, 3, noPeriod}, {[]float32{1e20, 1, 1e20, 1, 1e20, 1}, 2, 2, "2 00000000 true"},
		{[]float32{1e20, 1, 1e20, 1, 1e20, 1, 1e20, 1}, 2, 4, noPeriod}, {[]float32{1e20, 1, 1e20, 1, 1e20, 1, 1e20, 1}, 4, 4, "4 00000000 true"}, {[]float32{2e38, 1, 2e38, 1}, 2, 2, noPeriod},
	}
	for _, row := range rows {
		for workers := int64(1); workers <= impl.MaxWorkers; workers++ {
			period, least, ok := impl.BestPeriod(row.list, row.low, row.high, workers)
			expect(t, "period of "+shown(row.list, row.low, row.high, workers), shown(period, least, ok), row.want)
		}
		for _, workers := range []int64{0, -1, impl.MaxWorkers + 1, math.MaxInt64, math.MinInt64} {
			period, least, ok := impl.BestPeriod(row.list, row.low, row.high, workers)
			expect(t, "period of "+shown(row.list, row.low, row.high, workers), shown(period, least, ok), noPeriod)
		}
	}
}

func TestStepWaves(t *testing.T) {
	minusZero := fromBits(negZero)
	rows := []struct {
		list []float32
		want string
	}{
		{[]float32{1, 5}, "[40400000] [c0000000] true"}, {[]float32{1, 5, 2, -2, 7, 7}, "[40400000 00000000 40e00000] [c0000000 40000000 00000000] true"}, {[]float32{minusZero, minusZero, minusZero, 0}, "[80000000 00000000] [00000000 80000000] true"},
		{wavy(), "[3e4cccc8 4088cccd 43ee38f6 40323d71 40933333 4249cccd] [4039999a 407e6666 4402e385 402dc28f 40fccccd 4245cccd] true"}, {steep(), "[5e4249fe 5f32545f de8ac723] [5eb46947 5f289d79 de8ac723] true"}, {tiny()[:4], "[00400000 003fffff] [803fffff 80400002] true"}, {[]float32{3e38, 0}, "[7ee1b1e6] [7ee1b1e6] true"},
		{[]float32{1}, noWaves}, {[]float32{1, 2, 3}, noWaves}, {tiny(), noWaves}, {placesOf(impl.MaxLong - 1), noWaves},
		// A sum, or a difference, is not finite.
		{[]float32{3e38, 3e38}, noWaves}, {[]float32{3e38, -3e38}, noWaves}, {[]float32{1, 2, 3e38, 3e38}, noWaves}, {[]float32{1, 2, 3e38, -3e38}, noWaves},
	}
	for _, row := range rows {
		means, steps, ok := impl.StepWaves(row.list)
		expect(t, "step waves of "+shown(row.list), shown(means, steps, ok), row.want)
	}
	means, steps, ok := impl.StepWaves(repeated(float32(2), impl.MaxLong))
	expect(t, "step waves of a long series", shown(means, steps, ok), shown(repeated(float32(2), 48), make([]float32, 48), true))
}

func TestBackOfWaves(t *testing.T) {
	minusZero := fromBits(negZero)
	rows := []struct {
		means, steps []float32
		want         string
	}{
		{[]float32{3}, []float32{-2}, sure(1, 5)}, {[]float32{3, 0, 7}, []float32{-2, 2, 0}, sure(1, 5, 2, -2, 7, 7)}, {[]float32{minusZero, minusZero}, []float32{0, minusZero}, "[00000000 80000000 80000000 00000000] true"},
		{wavy(), rough(), "[40666666 40266666 4091999a c11f3333 409e6666 4138cccd 4144cccd c13b3333 447a00a4 4479ff5c c25e0a3e c21ad70a 40f66666 40533333 41988f5c c19770a4 413ccccd 41533333 400ccccd c10ccccd 42ca0000 42c5999a c0a00000 40e00000] true"}, {steep(), rough()[:6], "[5f0ac723 5f0ac723 de268890 de268890 5fad78ec 5fad78ec 5d1b6e65 5d1b6e65 df0ac723 df0ac723 c0599998 41566666] true"}, {tiny(), tiny(), "[00000002 00000000 00fffffe 00000000 80000006 00000000 01000001 00000000 80000004 00000000] true"},
		{[]float32{3e38}, []float32{1}, sure(3e38, 3e38)}, {[]float32{3e38}, []float32{3e38}, noNumbers}, {[]float32{3e38}, []float32{-3e38}, noNumbers},
		{[]float32{1, 3e38}, []float32{2, 3e38}, noNumbers}, {placesOf(48), make([]float32, 48), "[00000000 00000000 3f800000 3f800000 40000000 40000000 40400000 40400000 40800000 40800000 40a00000 40a00000 40c00000 40c00000 40e00000 40e00000 41000000 41000000 41100000 41100000 41200000 41200000 41300000 41300000 41400000 41400000 41500000 41500000 41600000 41600000 41700000 41700000 41800000 41800000 41880000 41880000 41900000 41900000 41980000 41980000 41a00000 41a00000 41a80000 41a80000 41b00000 41b00000 41b80000 41b80000 41c00000 41c00000 41c80000 41c80000 41d00000 41d00000 41d80000 41d80000 41e00000 41e00000 41e80000 41e80000 41f00000 41f00000 41f80000 41f80000 42000000 42000000 42040000 42040000 42080000 42080000 420c0000 420c0000 42100000 42100000 42140000 42140000 42180000 42180000 421c0000 421c0000 42200000 42200000 42240000 42240000 42280000 42280000 422c0000 422c0000 42300000 42300000 42340000 42340000 42380000 42380000 423c0000 423c0000] true"}, {placesOf(49), make([]float32, 49), noNumbers},
		{placesOf(96), placesOf(96), noNumbers},
	}
	for _, row := range rows {
		list, ok := impl.BackOfWaves(row.means, row.steps)
		expect(t, "back of "+shown(row.means, row.steps), shown(list, ok), row.want)
	}
	for _, pair := range unequalPairs() {
		list, ok := impl.BackOfWaves(pair[0], pair[1])
		expect(t, "back of "+shown(pair[0], pair[1]), shown(list, ok), noNumbers)
	}
}
