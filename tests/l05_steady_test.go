package tests

import (
	"math"
	"slices"
	"strings"
	"testing"

	"loop.example/g01375/impl"
)

// pastResults tells what the functions of own pasts return, one per line.
func pastResults(list, terms []float32, n int64, by float32) string {
	var lines []string
	add := func(values ...any) { lines = append(lines, shown(values...)) }
	own, spread, ok := impl.OwnPast(list, n)
	add(own, spread, ok)
	rows, spread, ok := impl.OwnRows(list, n)
	add(rows, spread, ok)
	order, cost, ok := impl.BestOrder(list, n, n%2)
	add(order, cost, ok)
	moving, spread, ok := impl.MovingParts(list, n, n)
	add(moving, spread, ok)
	calm, ok := impl.IsCalm(terms)
	add(calm, ok)
	power, ok := impl.PastPower(terms, by, by)
	add(power, ok)
	drawn, seed, ok := impl.DrawnSeries(terms, by, by, n, n)
	add(drawn, seed, ok)
	for _, maker := range pastMakers(terms, n, by) {
		made, ok := maker(list)
		add(made, ok)
	}
	return strings.Join(lines, "\n")
}

// numberMaker makes a list of numbers of a series.
type numberMaker = func(list []float32) ([]float32, bool)

func pastMakers(terms []float32, n int64, by float32) []numberMaker {
	return []numberMaker{
		func(list []float32) ([]float32, bool) { return impl.PastRests(list, terms, by) },
		func(list []float32) ([]float32, bool) { return impl.PastAhead(list, terms, by, n) },
		func([]float32) ([]float32, bool) { return impl.PastSpreads(terms, by, n) },
		func(list []float32) ([]float32, bool) {
			own, _, ok := impl.OwnPast(list, n)
			return own, ok
		},
		func(list []float32) ([]float32, bool) {
			rows, _, ok := impl.OwnRows(list, n)
			return rows, ok
		},
		func(list []float32) ([]float32, bool) {
			moving, _, ok := impl.MovingParts(list, n, n)
			return moving, ok
		},
		func([]float32) ([]float32, bool) {
			drawn, _, ok := impl.DrawnSeries(terms, by, by, n, n)
			return drawn, ok
		},
		func(list []float32) ([]float32, bool) {
			squares, _, ok := impl.ShockRun(list, by, by/4, by/4)
			return squares, ok
		},
	}
}

// models are one of each kind.
type models struct {
	level   impl.Level
	trend   impl.Trend
	regimes impl.Regimes
}

func ordinaryModels() models {
	return models{level: slowLevel(), trend: slowTrend(), regimes: threeRegimes()}
}

// modelResults tells what the functions of levels, trends and regimes return,
// one per line.
func modelResults(m models, list []float32, seen []bool, n int64, by float32) string {
	var lines []string
	add := func(values ...any) { lines = append(lines, shown(values...)) }
	add(impl.ValidLevel(m.level), impl.ValidTrend(m.trend), impl.ValidRegimes(m.regimes))
	add(impl.SameLevel(m.level, slowLevel()), impl.SameTrend(m.trend, slowTrend()), impl.SameRegimes(m.regimes, threeRegimes()))
	for _, was := range []bool{false, true} {
		level, unlikely, ok := impl.LevelStep(m.level, by, was)
		add(level, unlikely, ok)
		trend, expected, ok := impl.TrendStep(m.trend, by, was)
		add(trend, expected, ok)
	}
	means, spreads, sum, ok := impl.LevelRun(m.level, list, seen)
	add(means, spreads, sum, ok)
	means, spreads, ok = impl.LevelBack(m.level, list, seen)
	add(means, spreads, ok)
	last, expected, ok := impl.TrendRun(m.trend, list, seen)
	add(last, expected, ok)
	shares, sum, ok := impl.RegimeShares(m.regimes, list)
	add(shares, sum, ok)
	way, ok := impl.RegimeWay(m.regimes, list)
	add(way, ok)
	for _, maker := range modelMakers(m, seen, n) {
		made, ok := maker(list)
		add(made, ok)
	}
	return strings.Join(lines, "\n")
}

func modelMakers(m models, seen []bool, n int64) []numberMaker {
	return []numberMaker{
		func([]float32) ([]float32, bool) { return impl.TrendAhead(m.trend, n) },
		func(list []float32) ([]float32, bool) {
			return impl.RegimesShared(m.regimes, [][]float32{list, list}, n)
		},
		func(list []float32) ([]float32, bool) {
			shares, _, ok := impl.RegimeShares(m.regimes, list)
			return shares, ok
		},
		func(list []float32) ([]float32, bool) {
			_, expected, ok := impl.TrendRun(m.trend, list, seen)
			return expected, ok
		},
	}
}

func wildTerms() [][]float32 {
	return append(wrongTerms(), nil, []float32{0.5}, []float32{1}, []float32{-1, fromBits(negZero)}, []float32{0.9, -0.8, 0.7, -0.6, 0.5, -0.4},
		[]float32{3e38, -3e38, 3e38}, scatter(impl.MaxOrder), scatter(3), tiny())
}

func TestPastCallsAreSteady(t *testing.T) {
	check := func(list, terms []float32, n int64, by float32) {
		expectSteady(t, "pasts of "+shown(list, terms, n, by), func() string { return pastResults(list, terms, n, by) })
	}
	for _, list := range wildLists() {
		for _, n := range append(wildInts(), 5, 6, 7, 32, 33, math.MaxUint32, math.MaxUint32+1) {
			check(list, []float32{0.5, -0.3}, n, 0.5)
		}
		for _, terms := range wildTerms() {
			check(list, terms, 2, 0.5)
		}
		for _, by := range wildNumbers() {
			check(list, []float32{0.5, -0.3}, 3, by)
		}
	}
	for _, terms := range wildTerms() {
		for _, n := range append(wildInts(), 5, 6, 7, 32, 33) {
			for _, by := range wildNumbers() {
				check(rough(), terms, n, by)
			}
		}
	}
}

func wildModels() []models {
	var list []models
	add := func(change func(m *models)) {
		m := ordinaryModels()
		change(&m)
		list = append(list, m)
	}
	for _, l := range append(wrongLevels(), slowLevel(), levelOf(-3e38, 3e38, fromBits(1), 3e38), levelOf(1, fromBits(negZero), 1, 0)) {
		add(func(m *models) { m.level = l })
	}
	for _, wild := range append(wrongTrends(), trendOf(-3e38, 3e38, 0, -3e38, 3e38, fromBits(1), 3e38, 0), trendOf(0, 0, 1, -1, 0.5, 0.5, 0, 0)) {
		add(func(m *models) { m.trend = wild })
	}
	for _, r := range append(wrongRegimes(), validRegimes()...) {
		add(func(m *models) { m.regimes = r })
	}
	return list
}

func TestModelCallsAreSteady(t *testing.T) {
	check := func(m models, list []float32, seen []bool, n int64, by float32) {
		expectSteady(t, "models of "+shown(list, seen, n, by), func() string { return modelResults(m, list, seen, n, by) })
	}
	for _, m := range wildModels() {
		for _, text := range []string{"kkk", "---", "k-", ""} {
			check(m, []float32{1, 3, 2}, marks(text), 2, 0.5)
		}
		check(m, []float32{3e38, -3e38}, marks("kk"), 0, -3e38)
	}
	for _, list := range wildLists() {
		for _, seen := range [][]bool{nil, repeated(true, len(list)), repeated(false, len(list)), repeated(true, len(list)+1)} {
			for _, by := range wildNumbers() {
				check(ordinaryModels(), list, seen, 3, by)
			}
		}
	}
	for _, n := range append(wildInts(), 32, 33) {
		check(ordinaryModels(), rough(), repeated(true, 12), n, 0.5)
	}
}

func TestModelArgumentsAreLeft(t *testing.T) {
	whole, wholeTerms, wholeSeen := append(zeroSigned(), 7), []float32{0.5, fromBits(negZero), 0, 7, 8}, marks("k-kk--kk-k")
	many := [][]float32{roomy(whole), roomy(whole), {1}, {2}}
	r := threeRegimes()
	held := shown(r)
	// With room behind each part.
	r = regimesOf(roomy(append(r.Means, 7, 8)), roomy(append(r.Spreads, 7, 8)), roomy(append(r.Starts, 7, 8)), roomy(append(r.Steps, 7, 8)))
	parts := []float32{7, 8}
	before := shown(whole, wholeTerms, wholeSeen, many)
	m := ordinaryModels()
	m.regimes = r
	for _, n := range append(wildInts(), 4, 5, 6) {
		for _, by := range []float32{0, 0.5, 1} {
			pastResults(roomy(whole), roomy(wholeTerms), n, by)
			modelResults(m, roomy(whole), roomy(wholeSeen), n, by)
			impl.RegimesShared(r, roomy(many), n)
		}
	}
	expect(t, "arguments behind the calls", shown(whole, wholeTerms, wholeSeen, many), before)
	expect(t, "regimes behind the calls", shown(r), held)
	for _, part := range partsOf(&r) {
		expect(t, "the room behind regimes", shown((*part)[len(*part):len(*part)+2]), shown(parts))
	}
}

func TestModelResultsAreNew(t *testing.T) {
	list, terms, seen := []float32{3, 1, 2, 2.5, 0.5, 4, 1}, []float32{0.5, -0.25}, repeated(true, 7)
	m := ordinaryModels()
	before := shown(list, terms, seen, m.regimes)
	for _, n := range []int64{2, 3} {
		for i, maker := range append(pastMakers(terms, n, 0.5), modelMakers(m, seen, n)...) {
			first, ok := maker(list)
			want := shown(first, ok)
			if !ok {
				t.Fatalf("function %d fails", i)
			}
			spoil(first, 77)
			expect(t, "arguments behind changes of a result "+shown(i), shown(list, terms, seen, m.regimes), before)
			second, ok := maker(list)
			expect(t, "a result behind changes "+shown(i), shown(second, ok), want)
		}
	}
	way, ok := impl.RegimeWay(m.regimes, list)
	want := shown(way, ok)
	spoil(way, 77)
	way, ok = impl.RegimeWay(m.regimes, list)
	expect(t, "a way behind changes", shown(way, ok), want)
}

func TestMeansAndSpreadsShareNothing(t *testing.T) {
	list, seen := rough(), marks("k-kk--kkk--k")
	runs := []func() ([]float32, []float32, bool){
		func() ([]float32, []float32, bool) {
			means, spreads, _, ok := impl.LevelRun(slowLevel(), list, seen)
			return means, spreads, ok
		},
		func() ([]float32, []float32, bool) { return impl.LevelBack(slowLevel(), list, seen) },
	}
	for _, run := range runs {
		means, spreads, ok := run()
		heldMeans, heldSpreads := slices.Clone(means), slices.Clone(spreads)
		spoil(means, 77)
		expect(t, "spreads behind changes of means", shown(spreads, ok), shown(heldSpreads, true))
		means, spreads, ok = run()
		spoil(spreads, 78)
		expect(t, "means behind changes of spreads", shown(means, ok), shown(heldMeans, true))
		expect(t, "arguments behind changes", shown(list, seen), shown(rough(), marks("k-kk--kkk--k")))
	}
}
