package tests

import (
	"fmt"
	"math"
	"slices"
	"strings"
	"testing"

	"loop.example/g01375/impl"
)

// stateResults tells what the functions of chapter 4 with states return, one
// per line.
func stateResults(list []float32, s impl.State, h impl.Shares, n int64, by float32) string {
	var lines []string
	add := func(values ...any) { lines = append(lines, shown(values...)) }
	guess, ok := impl.GuessOf(s, h)
	add(guess, ok)
	next, miss, ok := impl.StepState(s, h, by)
	add(next, miss, ok)
	next, ok = impl.RunStates(list, s, h)
	add(next, ok)
	miss, ok = impl.MissOfShares(list, s, h)
	add(miss, ok)
	for _, maker := range stateMakers(s, h, n, by) {
		made, ok := maker(list)
		add(made, ok)
	}
	bands, seed, ok := impl.BandsOf(s, h, list, n, n, n, by)
	add(bands, seed, ok)
	return strings.Join(lines, "\n")
}

// stateMakers are the functions that make one list of numbers of a series and
// a state.
func stateMakers(s impl.State, h impl.Shares, n int64, by float32) []func([]float32) ([]float32, bool) {
	type numbers = []float32
	return []func(numbers) (numbers, bool){
		func(list numbers) (numbers, bool) { return impl.GuessesOf(list, s, h) },
		func(list numbers) (numbers, bool) { return impl.MissesOf(list, s, h) },
		func(numbers) (numbers, bool) { return impl.AheadOf(s, h, n) },
		func(list numbers) (numbers, bool) {
			bands, _, ok := impl.BandsOf(s, h, list, 3, 2, 1, by)
			return bands, ok
		},
	}
}

// smoothResults tells what the other functions of chapter 4 return for a
// series, one per line.
func smoothResults(list []float32, h impl.Shares, n int64, by float32) string {
	var lines []string
	add := func(values ...any) { lines = append(lines, shown(values...)) }
	start, ok := impl.StartState(list, n)
	add(start, ok)
	best, miss, ok := impl.BestShares(list, n, n)
	add(best, miss, ok)
	level, slope, ok := impl.DoubleLine(list, by)
	add(level, slope, ok)
	rate, ok := impl.SeldomNeeds(list, by)
	add(rate, ok)
	rate, ok = impl.ChanceNeeds(list, by, by)
	add(rate, ok)
	factors, level, ok := impl.TimesSeason(list, n, by)
	add(factors, level, ok)
	for _, maker := range smoothMakers(h, n, by) {
		made, ok := maker(list)
		add(made, ok)
	}
	return strings.Join(lines, "\n")
}

func smoothMakers(h impl.Shares, n int64, by float32) []func([]float32) ([]float32, bool) {
	type numbers = []float32
	return []func(numbers) (numbers, bool){
		func(list numbers) (numbers, bool) { return impl.SimpleLevels(list, by) },
		func(list numbers) (numbers, bool) { return impl.MissesShared([]numbers{list, list}, n, h, n) },
		func(list numbers) (numbers, bool) {
			factors, _, ok := impl.TimesSeason(list, n, by)
			return factors, ok
		},
		func(list numbers) (numbers, bool) {
			start, ok := impl.StartState(list, n)
			return start.Season, ok
		},
	}
}

// expectFailures holds lines of results against failures, but for those that
// need none of what is wrong.
func expectFailures(t *testing.T, what, results string, but ...int) {
	t.Helper()
	for i, line := range strings.Split(results, "\n") {
		if strings.Trim(line, "0[] ") != "false" && !slices.Contains(but, i) {
			t.Errorf("function %d of %s: got %s", i, what, line)
		}
	}
}

func TestWrongArgumentsAreNotSmoothed(t *testing.T) {
	s, list := stateOf(1, 2, 0, 3), []float32{1, 2, 3}
	for _, wrong := range wrongSeries() {
		for _, n := range []int64{0, 1, 2} {
			// A guess, a step, and guesses ahead need no series.
			expectFailures(t, "states with "+shown(wrong), stateResults(wrong, s, halfShares(), n, 0.5), 0, 1, 6)
			expectFailures(t, "ways to smooth "+shown(wrong), smoothResults(wrong, halfShares(), n, 0.5))
		}
	}
	for _, wrong := range wrongStates() {
		expectFailures(t, "states like "+shown(wrong), stateResults(list, wrong, halfShares(), 1, 0.5))
	}
	for _, wrong := range wrongShares() {
		expectFailures(t, "states with "+shown(wrong), stateResults(list, s, wrong, 1, 0.5))
		misses, ok := impl.MissesShared([][]float32{list}, 1, wrong, 1)
		expect(t, "misses shared with "+shown(wrong), shown(misses, ok), noNumbers)
	}
}

func wildLists() [][]float32 {
	return append(wrongSeries(), wavy(), rough(), steep(), tiny(), needs(), heights(), []float32{5}, []float32{fromBits(negZero)},
		repeated(float32(0.1), impl.MaxLong), repeated(float32(3e38), impl.MaxLong), specialNumbers(), scatter(impl.MaxLong), scatter(7))
}

func wildNumbers() []float32 {
	return []float32{0, 0.5, 1, -1, 3e38, fromBits(1), fromBits(negZero), fromBits(infBits), fromBits(nanBits)}
}

func wildStates() []impl.State {
	return append(wrongStates(), stateOf(1, 2, 0, 0), stateOf(3e38, -3e38, 2, 3e38, 3e38, 3e38), stateOf(fromBits(1), fromBits(negZero), 4, tiny()...),
		stateOf(0.1, 0.2, 23, repeated(float32(0.3), impl.MaxPeriod)...), stateOf(1, 2, 3, scatter(7)...))
}

func wildShares() []impl.Shares {
	return append(wrongShares(), halfShares(), sharesOf(0, 0, 0, 0), sharesOf(1, 1, 1, 1), sharesOf(0, 1, 1, 0), sharesOf(fromBits(negZero), fromBits(1), 0.9, 0.99))
}

func TestStateCallsAreSteady(t *testing.T) {
	check := func(list []float32, s impl.State, h impl.Shares, n int64, by float32) {
		what := "functions of " + shown(s, h, n, by) + " and a series"
		expectSteady(t, what, func() string { return stateResults(list, s, h, n, by) })
		expectSteady(t, what, func() string { return shown(impl.ValidState(s), impl.ValidShares(h), impl.SameState(s, s)) })
	}
	for _, s := range wildStates() {
		for _, h := range wildShares() {
			check(rough(), s, h, 2, 0.5)
		}
		for _, list := range wildLists() {
			check(list, s, sharesOf(0.3, 0.1, 0.2, 0.9), 3, 0.3)
		}
		for _, n := range append(wildInts(), 32, 33, 64, 65, math.MaxUint32, math.MaxUint32+1) {
			for _, by := range wildNumbers() {
				check(wavy(), s, halfShares(), n, by)
			}
		}
	}
}

func TestSmoothCallsAreSteady(t *testing.T) {
	for _, list := range wildLists() {
		for _, n := range append(wildInts(), 4, 5, 16, 17, 24, 25) {
			for _, by := range wildNumbers() {
				expectSteady(t, "functions of "+shown(list, n, by), func() string { return smoothResults(list, halfShares(), n, by) })
			}
		}
		for _, h := range wildShares() {
			expectSteady(t, "functions of "+shown(list, h), func() string { return smoothResults(list, h, 2, 0.5) })
		}
	}
}

func TestSmoothingArgumentsAreLeft(t *testing.T) {
	whole, wholeSeason := append(zeroSigned(), 7), []float32{1, -2, fromBits(negZero), 0, 7, 8}
	wholeNeeds := append(needs(), 7, 8)
	lists := [][]float32{roomy(whole), roomy(wholeNeeds), {1}, {2}}
	before := shown(whole, wholeSeason, wholeNeeds, lists)
	for at := range int64(4) {
		s := stateOf(1, 2, at, roomy(wholeSeason)...)
		held := stateOf(1, 2, at, slices.Clone(s.Season)...)
		for _, n := range append(wildInts(), 4, 5) {
			for _, by := range []float32{0, 0.5, 1} {
				for _, list := range lists[:2] {
					stateResults(list, s, sharesOf(by, 0.5, 0.3, 0.9), n, by)
					smoothResults(list, halfShares(), n, by)
					smoothResults(heights(), halfShares(), n, by)
					impl.MissesShared(roomy(lists), n, halfShares(), 2)
				}
			}
		}
		expect(t, "a state behind the calls", shown(s), shown(held))
	}
	expect(t, "arguments behind the calls", shown(whole, wholeSeason, wholeNeeds, lists), before)
	high := append(heights(), 7, 8)
	before = shown(high)
	impl.TimesSeason(roomy(high), 3, 0.5)
	impl.TimesSeason(roomy(high), 14, 0.5)
	expect(t, "heights behind the calls", shown(high), before)
}

func TestSmoothingResultsAreNew(t *testing.T) {
	list := heights()
	s := stateOf(1, 2, 1, 3, 4, 5)
	before := shown(list, s)
	makers := append(stateMakers(s, halfShares(), 3, 0.5), smoothMakers(halfShares(), 3, 0.5)...)
	for i, maker := range append(makers, smoothMakers(halfShares(), 1, 0)...) {
		first, ok := maker(list)
		want := shown(first, ok)
		if !ok {
			t.Fatalf("function %d fails", i)
		}
		spoil(first, 77)
		expect(t, "arguments behind changes of a result "+shown(i), shown(list, s), before)
		second, ok := maker(list)
		expect(t, "a result behind changes "+shown(i), shown(second, ok), want)
	}
}

func TestStatesAreNew(t *testing.T) {
	list := heights()
	s := stateOf(1, 2, 1, 3, 4, 5)
	before := shown(list, s)
	for _, h := range []impl.Shares{halfShares(), sharesOf(0, 0, 0, 0), sharesOf(1, 1, 1, 1)} {
		// A step behind which no number has changed but the place is new, too.
		for _, x := range []float32{5, 9} {
			next, _, ok := impl.StepState(s, h, x)
			want := shown(next, ok)
			spoil(next.Season, 77)
			expect(t, "a state behind changes of the next one", shown(list, s), before)
			again, _, ok := impl.StepState(s, h, x)
			expect(t, "the next state behind changes", shown(again, ok), want)
		}
		for long := 1; long <= len(list); long++ {
			last, ok := impl.RunStates(list[:long], s, h)
			want := shown(last, ok)
			spoil(last.Season, 77)
			expect(t, "arguments behind changes of the last state", shown(list, s), before)
			again, ok := impl.RunStates(list[:long], s, h)
			expect(t, "the last state behind changes", shown(again, ok), want)
		}
	}
}

// going returns count numbers of a series without rests, from a place on.
func going(level, slope float32, season []float32, from, count int) []float32 {
	list := make([]float32, count)
	for i := range list {
		at := from + i
		list[i] = float32(float64(level) + float64(slope)*float64(at) + float64(season[at%len(season)]))
	}
	return list
}

// expectGoesOn holds the misses of a series against none, and what is told
// behind it against how it goes on.
func expectGoesOn(t *testing.T, list []float32, s impl.State, h impl.Shares, on []float32) {
	t.Helper()
	what := shown(len(list), len(s.Season), h)
	slack := 0.00001 * (lengthOf(list) + lengthOf(on))
	misses, ok := impl.MissesOf(list, s, h)
	if !ok {
		t.Fatalf("no misses of %s", what)
	}
	expectWithin(t, "misses of "+what, misses, make([]float32, len(list)), slack)
	last, ok := impl.RunStates(list, s, h)
	ahead, okAhead := impl.AheadOf(last, h, int64(len(on)))
	if !ok || !okAhead {
		t.Fatalf("nothing ahead of %s", what)
	}
	expectWithin(t, "ahead of "+what, ahead, on, slack)
	bands, _, ok := impl.BandsOf(last, h, misses, int64(len(on)), 5, 1, 0.5)
	if !ok {
		t.Fatalf("no bands of %s", what)
	}
	expectWithin(t, "bands of "+what, bands, on, slack)
}

func manyShares(damp float32) []impl.Shares {
	var list []impl.Shares
	for _, level := range []float32{0, 0.3, 0.5, 1} {
		for _, slope := range []float32{0, 0.2, 1} {
			for _, season := range []float32{0, 0.7, 1} {
				list = append(list, sharesOf(level, slope, season, damp))
			}
		}
	}
	return list
}

func TestSeasonsGoOn(t *testing.T) {
	for period := 1; period <= impl.MaxPeriod; period++ {
		for _, season := range [][]float32{repeated(float32(0), period), slices.Concat(heights(), wholeNumbers(impl.MaxPeriod)[:10])[:period]} {
			// Seasons that are whole, and such that are not.
			for _, long := range []int{period, period + 1, 2*period - 1, 2 * period, 3*period + period/2} {
				list := going(100, 0, season, 0, long)
				s, ok := impl.StartState(list, int64(period))
				if !ok {
					t.Fatalf("no start of %s", shown(list, period))
				}
				for _, h := range append(manyShares(1), manyShares(0.5)...) {
					expectGoesOn(t, list, s, h, going(100, 0, season, long, impl.MaxReach))
				}
			}
		}
	}
}

func TestTrendsGoOn(t *testing.T) {
	for _, slope := range []float32{2, -0.75, 0.1} {
		for _, long := range []int{2, 3, 10, impl.MaxLong} {
			list := going(7, slope, []float32{0}, 0, long)
			s, _ := impl.StartState(list, 1)
			for _, h := range manyShares(1) {
				// The start is the state behind the first number.
				expectGoesOn(t, list[1:], s, h, going(7, slope, []float32{0}, long, impl.MaxReach))
			}
		}
	}
}

// TestTheOwnWayGoesOn runs states through their own guesses, also with trends
// that are damped, and seasons.
func TestTheOwnWayGoesOn(t *testing.T) {
	for _, damp := range []float32{0, 0.3, 0.9, 1} {
		for _, s := range []impl.State{stateOf(5, 3, 0, 0), stateOf(-4, 0.7, 2, 1, -2, 3, 9), stateOf(50, -2, 23, placesOf(impl.MaxPeriod)...)} {
			for _, h := range manyShares(damp) {
				ahead, ok := impl.AheadOf(s, h, impl.MaxReach)
				if !ok {
					t.Fatalf("nothing ahead of %s", shown(s, h))
				}
				for long := 1; long < impl.MaxReach; long += 6 {
					expectGoesOn(t, ahead[:long], s, h, ahead[long:])
				}
			}
		}
	}
}

func TestOtherWaysGoOn(t *testing.T) {
	for _, share := range []float32{0, 0.1, 0.5, 0.9, 1} {
		even := repeated(float32(0.3), impl.MaxLong)
		levels, ok := impl.SimpleLevels(even, share)
		expect(t, "levels of an even series", shown(levels, ok), shown(even, true))
		rate, ok := impl.SeldomNeeds(even, share)
		expect(t, "needs at all times", shown(rate, ok), shown(float32(0.3), true))
		for chance := float32(0); chance <= 1; chance += 0.25 {
			rate, ok = impl.ChanceNeeds(even, share, chance)
			expect(t, "needs with the chance 1", shown(rate, ok), shown(float32(0.3), true))
		}
		for wait := 1; wait <= 20; wait++ {
			seldom := slices.Repeat(append(make([]float32, wait-1), 6), 4)
			rate, ok = impl.SeldomNeeds(seldom, share)
			expect(t, fmt.Sprintf("needs behind %d places", wait), shown(rate, ok), shown(6/float32(wait), true))
		}
	}
	for _, share := range []float32{0.4, 0.5, 0.8, 0.9} {
		level, slope, ok := impl.DoubleLine(going(7, 2, []float32{0}, 0, impl.MaxLong), share)
		if !ok || math.Abs(float64(level)-197) > 0.001 || math.Abs(float64(slope)-2) > 0.0001 {
			t.Errorf("a line with %g: got %g, %g, %t", share, level, slope, ok)
		}
	}
}

func TestTimesSeasonsGoOn(t *testing.T) {
	for period := 1; period <= impl.MaxPeriod; period++ {
		season := slices.Concat(heights(), heights())[:period]
		mean, _ := impl.MeanOf(season)
		want := make([]float32, period)
		for i, x := range season {
			want[i] = x / mean
		}
		for _, share := range []float32{0, 0.3, 1} {
			list := going(0, 0, season, 0, 3*period+period/2)
			factors, level, ok := impl.TimesSeason(list, int64(period), share)
			if !ok || math.Abs(float64(level-mean)) > 0.00001*float64(mean) {
				t.Errorf("level of a season of %d: got %g, %t, want %g", period, level, ok, mean)
			}
			expectNear(t, "factors of a season of "+shown(period), factors, want)
		}
	}
}

// expectRise holds bands with a share against those with a lesser one.
func expectRise(t *testing.T, what string, lesser, bands []float32) {
	t.Helper()
	for i := range lesser {
		if !(lesser[i] <= bands[i]) {
			t.Errorf("%s: band %d falls from %g to %g", what, i, lesser[i], bands[i])
		}
	}
}

func TestBandsRiseWithTheirShare(t *testing.T) {
	for _, row := range bandRows() {
		_, wantSeed, ok := impl.BandsOf(row.s, row.h, row.misses, row.count, row.draws, row.seed, row.share)
		if !ok {
			continue
		}
		what := "bands of " + shown(row.s, row.h, row.count, row.draws, row.seed)
		var lesser []float32
		for step := float32(0); step <= 64; step++ {
			bands, seed, ok := impl.BandsOf(row.s, row.h, row.misses, row.count, row.draws, row.seed, step/64)
			// Gaps that are not finite are passed over.
			if !ok {
				continue
			}
			expect(t, "seed of "+what, shown(len(bands), seed), shown(row.count, wantSeed))
			if lesser != nil {
				expectRise(t, what, lesser, bands)
			}
			lesser = bands
		}
		if lesser == nil {
			t.Errorf("no %s", what)
		}
	}
}

// TestBandsDrawOn holds that ways are drawn one behind the other, each number
// by number, so that two ways end with the seed of one by one.
func TestBandsDrawOn(t *testing.T) {
	s, h, misses := stateOf(1, 2, 1, 3, 4, 5), sharesOf(0.3, 0.2, 0.1, 0.9), rough()
	for count := int64(1); count <= impl.MaxReach; count += 3 {
		seed := int64(99)
		columns := make([][]float32, count)
		for draws := int64(1); draws <= impl.MaxDraws; draws++ {
			way, next, ok := impl.BandsOf(s, h, misses, count, 1, seed, 0.5)
			seed = next
			for k, x := range way {
				columns[k] = append(columns[k], x)
			}
			bands, last, okBands := impl.BandsOf(s, h, misses, count, draws, 99, 0.3)
			want := make([]float32, count)
			for k, column := range columns {
				want[k], _ = impl.QuantileOf(column, 0.3)
			}
			expect(t, "bands of "+shown(count, draws), shown(bands, last, okBands, ok), shown(want, seed, true, true))
		}
	}
}

func TestLevelsGoTowardsNumbers(t *testing.T) {
	for _, list := range [][]float32{wavy(), rough(), heights(), wholeNumbers(impl.MaxLong)} {
		for _, share := range []float32{0, 0.1, 0.5, 0.9, 1} {
			levels, ok := impl.SimpleLevels(list, share)
			if !ok || levels[0] != list[0] {
				t.Fatalf("levels of %s: got %g, %t", shown(list), levels, ok)
			}
			for i := 1; i < len(list); i++ {
				slack := 0.000001 * lengthOf(list)
				low, high := float64(min(levels[i-1], list[i])), float64(max(levels[i-1], list[i]))
				if level := float64(levels[i]); level < low-slack || level > high+slack {
					t.Errorf("level %d of %s is %g", i, shown(list, share), level)
				}
			}
		}
	}
}

func TestSmoothingExamples(t *testing.T) {
	for period := int64(1); period <= 4; period++ {
		fours := repeated(float32(4), 8)
		s, ok := impl.StartState(fours, period)
		expect(t, "the level of fours", shown(s.Level, ok), shown(float32(4), true))
		for _, h := range manyShares(1) {
			misses, ok := impl.MissesOf(fours, s, h)
			expect(t, "the misses of fours", shown(misses, ok), shown(make([]float32, 8), true))
		}
	}
	s, ok := impl.StartState([]float32{1, 3, 5}, 1)
	expect(t, "the start of 1, 3, 5", shown(s.Level, s.Slope, ok), shown(float32(1), float32(2), true))
	for _, h := range manyShares(1) {
		guess, ok := impl.GuessOf(s, h)
		expect(t, "the guess for the first number", shown(guess, ok), shown(float32(3), true))
	}
	for share := float32(0); share <= 1; share += 0.125 {
		rate, ok := impl.SeldomNeeds([]float32{0, 2, 0, 2}, share)
		expect(t, "needs of 0, 2, 0, 2", shown(rate, ok), shown(float32(1), true))
	}
}
