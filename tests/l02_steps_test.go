package tests

import (
	"math"
	"runtime"
	"testing"
	"time"

	"loop.example/g01375/impl"
)

func TestStepOf(t *testing.T) {
	noStep := "0 00000000 false"
	rows := []struct {
		list []float32
		want string
	}{
		{[]float32{1, 1, 5, 5}, shown(int64(2), float32(4), true)}, {[]float32{9, 2}, shown(int64(1), float32(-7), true)},
		{[]float32{1, 1, 1, 8}, shown(int64(3), float32(7), true)}, {[]float32{8, 1, 1, 1}, shown(int64(1), float32(-7), true)},
		// The first one of several.
		{[]float32{3, 3, 3, 3}, shown(int64(1), float32(0), true)}, {[]float32{1, 2, 3}, shown(int64(1), float32(1.5), true)},
		{[]float32{fromBits(negZero), 0}, shown(int64(1), float32(0), true)},
		{wavy(), "5 c33ffee8 true"}, {steep(), "1 decf0e7d true"}, {tiny(), "1 003ffffe true"}, {wavy()[5:], "5 4263ac08 true"},
		// No sum of squares is finite: all of them are as great.
		{[]float32{1e30, -1e30, 1e30, -1e30}, "1 f186a1dc true"}, {[]float32{3e38, -3e38, 3e38}, "1 ff61b1e6 true"},
		{[]float32{3e38, -3e38}, noStep}, {[]float32{3e38, 3e38, -3e38}, noStep}, {[]float32{1, 3e38, 3e38}, noStep},
		{[]float32{5}, noStep}, {[]float32{0}, noStep},
	}
	for _, row := range rows {
		at, by, ok := impl.StepOf(row.list)
		expect(t, "step of "+shown(row.list), shown(at, by, ok), row.want)
	}
	long := repeated(float32(2), impl.MaxLong)
	long[impl.MaxLong-1] = 4
	at, by, ok := impl.StepOf(long)
	expect(t, "step of a long series", shown(at, by, ok), shown(int64(impl.MaxLong-1), float32(2), true))
}

func TestSeasonOf(t *testing.T) {
	rows := []struct {
		list   []float32
		period int64
		want   string
	}{
		{[]float32{1, 3, 1, 3}, 2, sure(-1, 1)}, {[]float32{1, 3, 1, 3}, 1, sure(0)}, {[]float32{1, 3, 1, 3}, 4, sure(-1, 1, -1, 1)},
		{[]float32{1, 5, 3}, 2, sure(-1.5, 1.5)}, {[]float32{1, 4, 3, 6, 8}, 3, "[bf2aaaa8 3feaaaac bf955554] true"}, {[]float32{7}, 1, sure(0)},
		{wavy(), 2, "[42c4d4e8 c2c4d4e8] true"}, {wavy(), 3, "[c2b0c8f6 43388666 c2c043d8] true"},
		{wavy(), 5, "[c2ae433e c2d0fd44 c2cb33e2 c2c6b900 43c44b5a] true"},
		{wavy(), 12, "[c2ad6290 c2b8fc29 c2a315c3 c2b2fc29 44638d48 c308e70a c2a895c3 c2b371ec c29a95c3 c2ba2f5d 4121b850 c2b195c3] true"},
		{steep(), 4, "[dea7ebd6 ded18dfa 5f837df6 de947e09] true"}, {tiny(), 3, "[00155558 00155555 802aaaac] true"},
		{[]float32{1, 2, 3}, 0, noNumbers}, {[]float32{1, 2, 3}, 4, noNumbers}, {[]float32{1, 2, 3}, -1, noNumbers},
		{[]float32{1, 2, 3}, math.MaxInt64, noNumbers}, {[]float32{1, 2, 3}, math.MinInt64, noNumbers},
		// A sum at one place, the sum of the means, or a difference is not finite.
		{[]float32{3e38, 1, 3e38}, 2, noNumbers}, {[]float32{3e38, 3e38, 1}, 3, noNumbers}, {[]float32{3.4e38, -3.4e38, -3.4e38}, 3, noNumbers},
		{[]float32{3e38, 3e38, -3e38, -3e38}, 2, sure(0, 0)}, {[]float32{3e38, -3e38, -1e38}, 3, "[7f7ac5aa ff489e22 fe489e22] true"},
	}
	for _, row := range rows {
		season, ok := impl.SeasonOf(row.list, row.period)
		expect(t, "season of "+shown(row.list, row.period), shown(season, ok), row.want)
	}
	season, ok := impl.SeasonOf(repeated(float32(2), impl.MaxLong), impl.MaxLong)
	expect(t, "season of the longest period", shown(season, ok), shown(repeated(float32(0), impl.MaxLong), true))
	season, ok = impl.SeasonOf(repeated(float32(2), impl.MaxLong+1), 2)
	expect(t, "season of a series that is too long", shown(season, ok), noNumbers)
}

const noParts = "[] [] [] false"

func TestTakeApart(t *testing.T) {
	minusZero := fromBits(negZero)
	rows := []struct {
		list                 []float32
		period, side, rounds int64
		trend, season, rest  string
	}{
		{[]float32{2, 2}, 1, 0, 1, "[40000000 40000000]", "[00000000 00000000]", "[00000000 00000000]"},
		{[]float32{7}, 1, 0, 1, "[40e00000]", "[00000000]", "[00000000]"},
		{[]float32{7}, 1, impl.MaxLong, 8, "[40e00000]", "[00000000]", "[00000000]"},
		{[]float32{minusZero, minusZero}, 2, 0, 2, "[00000000 00000000]", "[00000000 00000000]", "[80000000 80000000]"},
		{[]float32{3e38, 3e38, -3e38}, 1, 0, 1, "[7f61b1e6 7f61b1e6 ff61b1e6]", "[00000000 00000000 00000000]",
			"[00000000 00000000 00000000]"},
		{[]float32{1, 3, 1, 3, 1, 3}, 2, 1, 1, "[40000000 3fd55555 40155555 3fd55555 40155555 40000000]",
			"[bf9c71c7 3f9c71c7 bf9c71c7 3f9c71c7 bf9c71c7 3f9c71c7]", "[3e638e38 3de38e40 bde38e30 3de38e40 bde38e30 be638e38]"},
		{[]float32{1, 3, 1, 3, 1, 3}, 2, 1, 2, "[40000000 4004bda1 3ff684bd 4004bda1 3ff684bd 40000000]",
			"[bf735ba8 3f735ba8 bf735ba8 3f735ba8 bf735ba8 3f735ba8]", "[bd4a4580 bcca4580 3cca45c0 bcca4580 3cca45c0 3d4a4580]"},
		{wavy(), 3, 1, 1, "[3e4cccc8 40388888 3ff9999b 43a81777 439edd71 439fbb4f c15d8bf3 40c0bf25 4045c28f 42117777 42022222 4249cccd]",
			"[c2ae10c8 4339d16d c2c59212 c2ae10c8 4339d16d c2c59212 c2ae10c8 4339d16d c2c59212 c2ae10c8 4339d16d c2c59212]",
			"[42b3dd95 c33f66c2 42d22bac c378d9be 43f839da c385e4e0 42d4c246 c33fc57b 42d863fe 423d76e6 c2ece71e 42455757]"},
		{wavy(), 3, 1, 2, "[c244c545 4038888b 3ff999ab 43a81778 439edd71 439fbb4f c15d8bf0 40c0bf2b 4045c295 42117777 42022222 40dde028]",
			"[c2a4daa6 4332135e c2bf4c17 c2a4daa6 4332135e c2bf4c17 c2a4daa6 4332135e c2bf4c17 c2a4daa6 4332135e c2bf4c17]",
			"[4306b83e c337a8b3 42cbe5b0 c37d74d1 43fc18e1 c387765e 42cb8c24 c338076c 42d21e02 422b0aa2 c2dd6b00 42b36e14]"},
		{wavy(), 4, 2, 8, "[c2092494 400f3338 4312fe9e 4353c6f2 434dda53 43560dae 430b6586 4158fa63 420d986a 4231577b 41dc3331 42f7b7d1]",
			"[4388fd24 c2c84aa8 c2794a26 c2df04d5 4388fd24 c2c84aa8 c2794a26 c2df04d5 4388fd24 c2c84aa8 c2794a26 c2df04d5]",
			"[c36c978a 42be6aa8 c298d829 c2c7ef75 44020ad9 c3210484 c28f25f9 42c40960 c3947031 42520aa2 4306b28a c13597e0]"},
	}
	for _, row := range rows {
		trend, season, rest, ok := impl.TakeApart(row.list, row.period, row.side, row.rounds)
		expect(t, "taken apart "+shown(row.list, row.period, row.side, row.rounds), shown(trend, season, rest, ok),
			row.trend+" "+row.season+" "+row.rest+" true")
	}
}

func TestWrongTakeApart(t *testing.T) {
	list := []float32{1, 2, 3}
	rows := []struct {
		list                 []float32
		period, side, rounds int64
	}{
		{list, 0, 1, 1}, {list, 4, 1, 1}, {list, -1, 1, 1}, {list, math.MaxInt64, 1, 1}, {list, math.MinInt64, 1, 1},
		{list, 1, -1, 1}, {list, 1, impl.MaxLong + 1, 1}, {list, 1, math.MaxInt64, 1}, {list, 1, math.MinInt64, 1},
		{list, 1, 1, 0}, {list, 1, 1, 9}, {list, 1, 1, -1}, {list, 1, 1, math.MaxInt64}, {list, 1, 1, math.MinInt64},
		{[]float32{2.5e38, 1e38}, 1, 2, 2},                          // a moving mean
		{[]float32{-2.5e38, 3e38, -3e38}, 3, 1, 1},                  // a number less the trend
		{[]float32{-3e38, 1e38, 3e38}, 2, 2, 2},                     // a number less the season
		{[]float32{-3e38, 1.5e38, -1.5e38, 3e38, -2.5e38}, 3, 1, 1}, // the rest alone
	}
	for _, row := range rows {
		trend, season, rest, ok := impl.TakeApart(row.list, row.period, row.side, row.rounds)
		expect(t, "taken apart "+shown(row.list, row.period, row.side, row.rounds), shown(trend, season, rest, ok), noParts)
	}
	long := repeated(float32(2), impl.MaxLong)
	trend, season, rest, ok := impl.TakeApart(long, impl.MaxLong, impl.MaxLong, 8)
	zeros := make([]float32, impl.MaxLong)
	expect(t, "taken apart at all limits", shown(trend, season, rest, ok), shown(long, zeros, zeros, true))
}

func TestJoinAndThinSteps(t *testing.T) {
	minusZero := fromBits(negZero)
	rows := []struct {
		list         []float32
		n            int64
		joined, thin string
	}{
		{[]float32{1, 2, 3}, 2, sure(3), sure(1, 3)}, {[]float32{1, 2, 3}, 1, sure(1, 2, 3), sure(1, 2, 3)},
		{[]float32{1, 2, 3}, 3, sure(6), sure(1)}, {[]float32{1, 2, 3, 4, 5, 6}, 3, sure(6, 15), sure(1, 4)},
		{[]float32{7}, 1, sure(7), sure(7)}, {[]float32{minusZero, minusZero}, 1, sure(0, 0), sure(minusZero, minusZero)},
		{wavy(), 5, "[447c3ccd c2015c29] true", "[40466666 c23c70a4 42c7cccd] true"},
		{wavy(), 3, "[410a6666 446e4c29 41908f5c 42c33333] true", "[40466666 3e99999a 40b00000 c0533333] true"},
		{[]float32{1e8, 1, -1e8, 1, 1e8, -1e8}, 3, sure(0, 0), sure(1e8, 1)}, {tiny(), 2, "[00800000 007ffffe] true", "[00000001 80000003 80000002] true"},
		{[]float32{3e38, 3e38, 1}, 2, noNumbers, sure(3e38, 1)}, {[]float32{3e38, 3e38, -3e38}, 3, noNumbers, sure(3e38)},
		// What is left at the end is not joined.
		{[]float32{1, 2, 3, 3e38, 3e38}, 3, sure(6), sure(1, 3e38)},
		{[]float32{1, 2, 3}, 0, noNumbers, noNumbers}, {[]float32{1, 2, 3}, 4, noNumbers, noNumbers}, {[]float32{1, 2, 3}, -1, noNumbers, noNumbers},
		{[]float32{1, 2, 3}, math.MaxInt64, noNumbers, noNumbers}, {[]float32{1, 2, 3}, math.MinInt64, noNumbers, noNumbers},
		{repeated(float32(2), impl.MaxLong), impl.MaxLong, sure(2 * impl.MaxLong), sure(2)},
		{repeated(float32(2), impl.MaxLong), impl.MaxLong + 1, noNumbers, noNumbers},
	}
	for _, row := range rows {
		joined, ok := impl.JoinSteps(row.list, row.n)
		expect(t, "joined "+shown(row.list, row.n), shown(joined, ok), row.joined)
		thin, ok := impl.ThinSteps(row.list, row.n)
		expect(t, "thinned "+shown(row.list, row.n), shown(thin, ok), row.thin)
	}
}

func TestEvenSeries(t *testing.T) {
	rows := []struct {
		list []float32
		want string
	}{
		{[]float32{1, 3}, sure(-1, 1)}, {[]float32{5, -3}, sure(1, -1)}, {[]float32{1, 2, 4}, "[bf88d676 be88d674 3fab0c15] true"},
		{wavy(), "[bea0adbf beab6db8 be97222e bea5de49 4052e042 befdbd51 be9c3aff bea64b6a be8f41a5 beac8a69 3d15de57 bea49226] true"},
		{[]float32{1e-20, 2e-20, 4e-20}, "[bf88d67d be88d67c 3fab0c1d] true"}, {[]float32{1e19, 2e19}, "[bf7ffffe 3f800001] true"},
		// The spread is 0, also where the squares are too small.
		{[]float32{1, 1}, noNumbers}, {[]float32{7}, noNumbers}, {[]float32{fromBits(negZero), 0}, noNumbers}, {[]float32{0, 1e-30}, noNumbers},
		{tiny(), noNumbers}, {steep(), noNumbers}, {[]float32{3e38, 3e38}, noNumbers}, {repeated(float32(2), impl.MaxLong), noNumbers},
	}
	for _, row := range rows {
		even, ok := impl.EvenSeries(row.list)
		expect(t, "evened "+shown(row.list), shown(even, ok), row.want)
	}
}

func TestMeansShared(t *testing.T) {
	for _, count := range []int{1, 2, 7, 15, 16} {
		lists := make([][]float32, count)
		want := make([]float32, count)
		for i := range lists {
			lists[i] = append(wavy()[i%3:], float32(i))
			want[i], _ = impl.MeanOf(lists[i])
		}
		for workers := int64(1); workers <= impl.MaxWorkers; workers++ {
			means, ok := impl.MeansShared(lists, workers)
			expect(t, "means shared by "+shown(workers), shown(means, ok), shown(want, true))
		}
		for _, workers := range []int64{0, -1, impl.MaxWorkers + 1, math.MaxInt64, math.MinInt64} {
			means, ok := impl.MeansShared(lists, workers)
			expect(t, "means shared by "+shown(workers), shown(means, ok), noNumbers)
		}
	}
	means, ok := impl.MeansShared([][]float32{{1}, {2, 4}, wavy(), repeated(float32(0.1), impl.MaxLong)}, 3)
	expect(t, "means shared", shown(means, ok), "[3f800000 40400000 42b395c3 3dcccccd] true")
}

// expectJoined holds the goroutines behind some calls against those before.
func expectJoined(t *testing.T, call func()) {
	t.Helper()
	before := runtime.NumGoroutine()
	for range 100 {
		call()
	}
	// A goroutine that has told its end may count for a moment.
	for range 100 {
		if runtime.NumGoroutine() <= before {
			return
		}
		time.Sleep(10 * time.Millisecond)
	}
	t.Errorf("%d goroutines behind the calls, %d before them", runtime.NumGoroutine(), before)
}

func TestWorkersAreJoined(t *testing.T) {
	expectJoined(t, func() {
		impl.MeansShared([][]float32{wavy(), steep(), {3e38, 3e38}, nil, tiny()}, impl.MaxWorkers)
	})
}

func TestWrongMeansShared(t *testing.T) {
	for _, lists := range [][][]float32{nil, {}, repeated([]float32{1}, 17), repeated([]float32{1}, 1000), {{3e38, 3e38}}} {
		means, ok := impl.MeansShared(lists, 2)
		expect(t, "means shared of "+shown(len(lists)), shown(means, ok), noNumbers)
	}
	for _, wrong := range wrongSeries() {
		for place := range 16 {
			lists := repeated([]float32{1, 2}, 16)
			lists[place] = wrong
			means, ok := impl.MeansShared(lists, 5)
			expect(t, "means shared with "+shown(wrong), shown(means, ok), noNumbers)
		}
	}
}
