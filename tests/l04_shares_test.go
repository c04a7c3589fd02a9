package tests

import (
	"math"
	"slices"
	"testing"

	"loop.example/g01375/impl"
)

const noShares = "00000000 00000000 00000000 00000000 00000000 false"

func TestMissOfShares(t *testing.T) {
	rows := []runRow{
		{[]float32{3, 6}, stateOf(1, 2, 0, 0), sharesOf(0.5, 0.5, 0, 1), "3f000000 true"}, {[]float32{3, 6, 1}, stateOf(1, 2, 0, 0), sharesOf(0.5, 0.5, 0, 1), "41785555 true"}, {[]float32{4}, stateOf(1, 2, 0, 0), sharesOf(0.5, 0.5, 0, 1), "3f800000 true"},
		{wavy(), stateOf(0.1, 0.7, 1, 11, 0.3, 12), sharesOf(0.1, 0.2, 0.3, 0.9), "47c346a4 true"}, {rough(), stateOf(2, -1, 4, 1, 2, 3, 4, 5), sharesOf(0.9, 0.1, 0.5, 0.5), "430ebd71 true"}, {rough(), stateOf(2, -1, 4, 1, 2, 3, 4, 5), sharesOf(0, 0, 0, 0), "4286f8db true"},
		{tiny(), stateOf(0, fromBits(7), 0, 0, fromBits(negZero)), sharesOf(0.3, 0.3, 0.3, 0.3), "00000000 true"}, {wholeNumbers(impl.MaxLong), stateOf(5, 1, 20, wholeNumbers(24)...), sharesOf(0.2, 0.1, 0.4, 0.95), "4ea12cb7 true"},
		{[]float32{4096, 1, 1, 1}, stateOf(0, 0, 0, 0), sharesOf(0, 0, 0, 0), "4a800000 true"}, {[]float32{1.8e19}, stateOf(0, 0, 0, 0), sharesOf(0, 0, 0, 0), "7f73c022 true"}, {[]float32{fromBits(negZero)}, stateOf(0, 0, 0, 0), sharesOf(0, 0, 0, 0), "00000000 true"},
		// A square, their sum, or a state is not finite.
		{[]float32{1.9e19}, stateOf(0, 0, 0, 0), sharesOf(0, 0, 0, 0), noNumber}, {[]float32{1.8e19, 1.8e19}, stateOf(0, 0, 0, 0), sharesOf(0, 0, 0, 0), noNumber}, {[]float32{1, 1, -1.9e19}, stateOf(0, 0, 0, 0), sharesOf(0, 0, 0, 0), noNumber}, {[]float32{3e38, -3e38}, stateOf(3e38, 0, 0, 0), sharesOf(0, 0, 0, 0), noNumber},
	}
	for _, row := range rows {
		miss, ok := impl.MissOfShares(row.list, row.s, row.h)
		expect(t, "miss of "+shown(row.list, row.s, row.h), shown(miss, ok), row.want)
	}
}

type bestRow struct {
	list          []float32
	period, steps int64
	want          string
}

func bestRows() []bestRow {
	return []bestRow{
		{[]float32{4, 4, 4}, 1, 2, "00000000 00000000 00000000 3f800000 00000000 true"}, {[]float32{1}, 1, 4, "00000000 00000000 00000000 3f800000 00000000 true"}, {[]float32{1, 3, 5}, 1, 1, "00000000 00000000 3f800000 3f800000 3faaaaab true"}, {[]float32{1, 3, 5, 7}, 1, 4, "00000000 00000000 3f800000 3f800000 3f800000 true"}, {[]float32{1, 2, 9, 12}, 1, 3, "3eaaaaab 3f2aaaab 3f800000 3f800000 411f2e2c true"},
		{wavy(), 1, 1, "00000000 00000000 00000000 3f800000 47b2192b true"}, {wavy(), 1, 4, "00000000 00000000 00000000 3f800000 47b2192b true"}, {wavy(), 3, 3, "3eaaaaab 3eaaaaab 00000000 3f800000 47f70984 true"}, {wavy(), 6, 4, "00000000 00000000 3f000000 3f800000 476c977f true"}, {wavy(), 12, 2, "00000000 00000000 00000000 3f800000 2d022f05 true"}, {rough(), 1, 4, "3e800000 3f400000 3e800000 3f800000 42ed227f true"}, {rough(), 2, 3, "00000000 00000000 00000000 3f800000 426f4c35 true"}, {rough(), 4, 2, "00000000 00000000 00000000 3f800000 424d5040 true"}, {rough(), 5, 4, "00000000 00000000 3f400000 3f800000 429c2052 true"}, {rough(), 5, 1, "00000000 00000000 3f800000 3f800000 429e61a1 true"},
		{wholeNumbers(impl.MaxLong), impl.MaxPeriod, 4, "3e800000 00000000 3f000000 3f800000 4e665093 true"}, {wholeNumbers(impl.MaxLong), 7, 3, "3eaaaaab 00000000 3eaaaaab 3f800000 4e8910bb true"}, {wholeNumbers(20), 3, 4, "3e800000 3f000000 00000000 3f800000 4ea67e81 true"}, {wholeNumbers(30), 4, 3, "3eaaaaab 3eaaaaab 3eaaaaab 3f800000 4e5d12c4 true"}, {heights(), 6, 4, "00000000 00000000 3f800000 3f800000 4078f239 true"}, {heights(), 3, 3, "3eaaaaab 3eaaaaab 00000000 3f800000 42f6764d true"},
		{placesOf(40), 1, 4, "00000000 00000000 3f800000 3f800000 3ccccccd true"}, {placesOf(40), 5, 4, "3f000000 00000000 3f800000 3f800000 3f5ffc33 true"}, {slices.Repeat([]float32{1, 5, 2}, 9), 3, 4, "00000000 00000000 00000000 3f800000 00000000 true"}, {slices.Repeat([]float32{1, 5, 2}, 9), 4, 4, "3e800000 3e800000 3e800000 3f800000 40b738b2 true"}, {slices.Repeat([]float32{1, 5, 2, 2}, 9), 3, 3, "00000000 00000000 3eaaaaab 3f800000 4055d10c true"},
		{tiny(), 2, 4, "00000000 00000000 00000000 3f800000 00000000 true"}, {[]float32{1e-20, 5e-20, 2e-20, 9e-20}, 1, 3, "3eaaaaab 3f800000 00000000 3f800000 00110d08 true"},
		// Shares that do not miss less than others.
		{[]float32{0, 0, 8, 8, 8, 8}, 1, 1, "00000000 00000000 3f800000 3f800000 412aaaab true"}, {[]float32{-2e18, 1.5e19}, 1, 2, "00000000 00000000 3f800000 3f800000 7ed96b60 true"}, {[]float32{5e18, 1e19, 1.5e19, 2e18, -2e18}, 1, 2, "3f000000 3f800000 3f000000 3f800000 7e440742 true"}, {[]float32{-1e19, -5e18, -1e19, -1e19, -1e18}, 1, 2, "3f000000 00000000 3f800000 3f800000 7dc7d0b2 true"},
		// Some shares fail, the first ones among them, or not.
		{[]float32{-1.5e19, 0, -2e18}, 1, 2, "3f000000 3f800000 00000000 3f800000 7e9e1ca1 true"}, {[]float32{0, 1e18, 1.5e19, -1e18}, 2, 2, "00000000 00000000 3f800000 3f800000 7e147102 true"}, {[]float32{-5e18, 1e19, -2e18, -1e19}, 2, 2, "00000000 00000000 3f000000 3f800000 7e7725cf true"}, {[]float32{1e18, 1e19, 1e19, 1.5e19, -5e18}, 2, 2, "3f800000 3f000000 00000000 3f800000 7e302fa0 true"},
		{[]float32{2e18, -5e18, 0, 1e19}, 2, 4, "3e800000 00000000 00000000 3f800000 7e054e15 true"}, {[]float32{1.5e19, -1, -1, -2e18, 1e19}, 2, 3, "3eaaaaab 3f2aaaab 00000000 3f800000 7e2e742a true"}, {[]float32{1.5e19, -2e18, -1.5e19}, 1, 4, "3f000000 3f000000 3f000000 3f800000 7e90fa46 true"},
		// All of them fail.
		{steep(), 1, 4, noShares}, {[]float32{1e20, 0, 0}, 1, 4, noShares}, {[]float32{0, 2e19}, 1, 4, noShares}, {[]float32{0, 3e38}, 1, 4, noShares},
		// What fails at a number in the middle counts no more, although it would miss
		// nothing before and behind it.
		{[]float32{fromBits(0x7f400000), 0, 0, 0, fromBits(0xff400000), fromBits(0x7f400000)}, 4, 4, noShares}, {[]float32{fromBits(0x7f400000), 0, 0, 0, fromBits(0xff400000)}, 4, 1, noShares},
		{[]float32{fromBits(0x7f400000), 0, 0, 0, fromBits(0x7f400000)}, 4, 1, "00000000 00000000 00000000 3f800000 00000000 true"},
		// A start of both numbers misses none of them.
		{[]float32{0, 3e38}, 2, 4, "00000000 00000000 00000000 3f800000 00000000 true"},
		{[]float32{1}, 1, 0, noShares}, {[]float32{1}, 1, 5, noShares}, {[]float32{1}, 1, -1, noShares}, {[]float32{1}, 1, math.MaxInt64, noShares}, {[]float32{1}, 1, math.MinInt64, noShares},
		{[]float32{1, 2}, 3, 1, noShares}, {[]float32{1, 2}, 0, 1, noShares}, {[]float32{1, 2}, -1, 1, noShares}, {[]float32{1, 2}, math.MaxInt64, 1, noShares}, {wholeNumbers(impl.MaxLong), impl.MaxPeriod + 1, 1, noShares},
		{[]float32{3e38, 3e38}, 2, 4, noShares}, {[]float32{-3e38, 3e38}, 1, 4, noShares},
	}
}

func TestBestShares(t *testing.T) {
	for _, row := range bestRows() {
		h, miss, ok := impl.BestShares(row.list, row.period, row.steps)
		expect(t, "best shares of "+shown(row.list, row.period, row.steps), shown(h, miss, ok), row.want)
	}
}

// TestNoSharesAreBetter holds the best shares against all of the grid.
func TestNoSharesAreBetter(t *testing.T) {
	for _, row := range bestRows() {
		best, least, ok := impl.BestShares(row.list, row.period, row.steps)
		start, _ := impl.StartState(row.list, row.period)
		first := true
		for place := int64(0); ok && place < (row.steps+1)*(row.steps+1)*(row.steps+1); place++ {
			share := func(k int64) float32 { return float32(k%(row.steps+1)) / float32(row.steps) }
			h := sharesOf(share(place/(row.steps+1)/(row.steps+1)), share(place/(row.steps+1)), share(place), 1)
			miss, okMiss := impl.MissOfShares(row.list, start, h)
			if h == best {
				expect(t, "miss of the best shares of "+shown(row.list, row.period), shown(miss, okMiss), shown(least, true))
				first = false
			}
			if okMiss && (miss < least || first && miss == least) {
				t.Errorf("%s misses %s by %g, and not by %g", shown(h), shown(row.list, row.period), miss, least)
			}
		}
	}
}

func TestMissesShared(t *testing.T) {
	for _, count := range []int{1, 2, 7, 15, 16} {
		lists := make([][]float32, count)
		want := make([]float32, count)
		for i := range lists {
			lists[i] = append(wavy()[i%3:], float32(i))
			start, _ := impl.StartState(lists[i], 4)
			want[i], _ = impl.MissOfShares(lists[i], start, halfShares())
		}
		for workers := int64(1); workers <= impl.MaxWorkers; workers++ {
			misses, ok := impl.MissesShared(lists, 4, halfShares(), workers)
			expect(t, "misses shared by "+shown(workers), shown(misses, ok), shown(want, true))
		}
		for _, workers := range []int64{0, -1, impl.MaxWorkers + 1, math.MaxInt64, math.MinInt64} {
			misses, ok := impl.MissesShared(lists, 4, halfShares(), workers)
			expect(t, "misses shared by "+shown(workers), shown(misses, ok), noNumbers)
		}
	}
	rows := []struct {
		lists   [][]float32
		period  int64
		h       impl.Shares
		workers int64
		want    string
	}{
		{[][]float32{{4, 4}}, 1, sharesOf(0.5, 0.5, 0, 1), 2, "[00000000] true"}, {[][]float32{{1, 3, 5}, rough(), wavy(), repeated(float32(0.1), impl.MaxLong)}, 1, sharesOf(0.1, 0.2, 0.3, 0.9), 3, "[3fa12c3a 4308259a 47d15bb7 00000000] true"},
		{[][]float32{{1, 3, 5}, rough(), wavy(), wholeNumbers(impl.MaxLong)}, 3, sharesOf(0.1, 0.2, 0.3, 0.9), 8, "[00000000 423af685 47f94117 4e589717] true"}, {[][]float32{wholeNumbers(impl.MaxLong), wholeNumbers(24)}, impl.MaxPeriod, sharesOf(0, 1, 1, 0), 1, "[4e85b097 00000000] true"},
		{[][]float32{{1}, rough()}, 1, sharesOf(0.1, 0.2, 0.3, 0.9), 2, "[00000000 4308259a] true"}, {[][]float32{{1}, rough()}, 2, sharesOf(0.1, 0.2, 0.3, 0.9), 2, noNumbers},
		{[][]float32{{1}}, 0, sharesOf(0.1, 0.2, 0.3, 0.9), 2, noNumbers}, {[][]float32{{1}}, -1, sharesOf(0.1, 0.2, 0.3, 0.9), 2, noNumbers}, {[][]float32{{1}}, math.MaxInt64, sharesOf(0.1, 0.2, 0.3, 0.9), 2, noNumbers}, {[][]float32{wholeNumbers(impl.MaxLong)}, impl.MaxPeriod + 1, sharesOf(0.1, 0.2, 0.3, 0.9), 2, noNumbers},
		// A start, or a miss, is not finite.
		{[][]float32{{1}, {3e38, 3e38}}, 2, sharesOf(0.1, 0.2, 0.3, 0.9), 2, noNumbers}, {[][]float32{{1}, {0, 2e19}}, 1, sharesOf(0.1, 0.2, 0.3, 0.9), 2, noNumbers},
	}
	for _, row := range rows {
		misses, ok := impl.MissesShared(row.lists, row.period, row.h, row.workers)
		expect(t, "misses shared of "+shown(row.lists, row.period, row.h, row.workers), shown(misses, ok), row.want)
	}
}

func TestWrongMissesShared(t *testing.T) {
	for _, lists := range [][][]float32{nil, {}, repeated([]float32{1}, 17), repeated([]float32{1}, 1000)} {
		misses, ok := impl.MissesShared(lists, 1, halfShares(), 2)
		expect(t, "misses shared of "+shown(len(lists)), shown(misses, ok), noNumbers)
	}
	for _, wrong := range append(wrongSeries(), []float32{1, 2}) {
		for place := range 16 {
			lists := repeated([]float32{1, 2, 3}, 16)
			lists[place] = wrong
			misses, ok := impl.MissesShared(lists, 3, halfShares(), 5)
			expect(t, "misses shared with "+shown(wrong), shown(misses, ok), noNumbers)
		}
	}
}

func TestMissWorkersAreJoined(t *testing.T) {
	expectJoined(t, func() {
		impl.MissesShared([][]float32{wavy(), steep(), {3e38, 3e38}, nil, tiny()}, 1, halfShares(), impl.MaxWorkers)
	})
}
