package tests

import (
	"math"
	"slices"
	"strings"
	"testing"

	"loop.example/g01375/impl"
)

// forecastResults tells what the functions of series of chapter 6 return, one
// per line.
func forecastResults(list, other []float32, n int64, by float32) string {
	var lines []string
	add := func(values ...any) { lines = append(lines, shown(values...)) }
	for _, measure := range []func(a, b []float32) (float32, bool){impl.MeanMiss, impl.SizeMiss, impl.RootMiss, impl.ShareMiss} {
		miss, ok := measure(list, other)
		add(miss, ok)
	}
	miss, ok := impl.ScaledMiss(list, list, other, n)
	add(miss, ok)
	miss, ok = impl.QuantileMiss(list, other, by)
	add(miss, ok)
	cover, ok := impl.CoverOf(list, other, list)
	add(cover, ok)
	ranks, ok := impl.RanksMiss([][]float32{list, other}, list)
	add(ranks, ok)
	best, ok := impl.BestKind(list, n, n, n)
	add(best, ok)
	point, ok := impl.OrderPoint(list, n, by)
	add(point, ok)
	level, ok := impl.StockLevel(list, by, by)
	add(level, ok)
	stocks, lacking, orders, ok := impl.RunStock(list, by, by/2, by, n)
	add(stocks, lacking, orders, ok)
	for _, maker := range forecastMakers(other, n, by) {
		made, ok := maker(list)
		add(made, ok)
	}
	return strings.Join(lines, "\n")
}

func forecastMakers(other []float32, n int64, by float32) []numberMaker {
	makers := []numberMaker{
		func(list []float32) ([]float32, bool) {
			return impl.BlendOf([][]float32{list, other}, []float32{by, 0.5})
		},
		func(list []float32) ([]float32, bool) { return impl.MiddleBlend([][]float32{list, other}) },
		func(list []float32) ([]float32, bool) { return impl.MiddleBlend([][]float32{list}) },
		func(list []float32) ([]float32, bool) {
			return impl.LearnWeights([][]float32{list, other}, list, by)
		},
		func(list []float32) ([]float32, bool) {
			return impl.RollsShared([][]float32{list, list}, n%impl.MaxKind, 1, 1, 1, n)
		},
		func(list []float32) ([]float32, bool) {
			stocks, _, _, ok := impl.RunStock(list, by, by/2, by, n)
			return stocks, ok
		},
	}
	for kind := range int64(impl.MaxKind) {
		makers = append(makers,
			func(list []float32) ([]float32, bool) { return impl.ForecastBy(list, kind, n, n) },
			func(list []float32) ([]float32, bool) { return impl.RollMisses(list, kind, n, n, n) })
	}
	return makers
}

// treeResults tells what the functions of sums of chapter 6, and of weights by
// misses, return, one per line.
func treeResults(parents []int64, values []float32, by float32) string {
	var lines []string
	add := func(values ...any) { lines = append(lines, shown(values...)) }
	good, ok := impl.IsTreeSum(parents, values, by)
	add(good, ok)
	total, parts, ok := impl.MeetMiddle(by, values)
	add(total, parts, ok)
	for _, maker := range treeMakers(parents, by) {
		made, ok := maker(values)
		add(made, ok)
	}
	return strings.Join(lines, "\n")
}

func treeMakers(parents []int64, by float32) []numberMaker {
	return []numberMaker{
		func(values []float32) ([]float32, bool) { return impl.TreeSums(parents, values) },
		func(values []float32) ([]float32, bool) { return impl.SumUp(parents, values) },
		func(values []float32) ([]float32, bool) { return impl.SplitDown(parents, values) },
		func(values []float32) ([]float32, bool) { return impl.WeightsByMiss(values) },
		func(values []float32) ([]float32, bool) {
			_, parts, ok := impl.MeetMiddle(by, values)
			return parts, ok
		},
	}
}

func TestWrongSeriesAreNotForecast(t *testing.T) {
	for _, wrong := range wrongSeries() {
		for n := range int64(4) {
			expectFailures(t, "forecasts with "+shown(wrong), forecastResults(wrong, wrong, n, 0.5))
		}
	}
}

func TestForecastCallsAreSteady(t *testing.T) {
	check := func(list, other []float32, n int64, by float32) {
		expectSteady(t, "forecasts of "+shown(list, other, n, by), func() string { return forecastResults(list, other, n, by) })
	}
	for _, list := range wildLists() {
		for _, n := range append(wildInts(), 4, 5, 6, 32, 33, math.MaxUint32, math.MaxUint32+1) {
			check(list, list, n, 0.5)
		}
		for _, by := range wildNumbers() {
			check(list, repeated(float32(0.3), len(list)), 1, by)
			check(list, rough(), 2, by)
		}
	}
	for _, a := range append(wildNumbers(), tiny()...) {
		for _, b := range wildNumbers() {
			for _, c := range wildNumbers() {
				expectSteady(t, "sizes of "+shown(a, b, c), func() string {
					size, ok := impl.OrderSize(a, b, c)
					stocks, lacking, orders, okStock := impl.RunStock(needs(), a, b, c, 2)
					return shown(size, ok, stocks, lacking, orders, okStock)
				})
			}
		}
	}
}

func TestFarPlacesAreSteady(t *testing.T) {
	far := append(wildInts(), math.MaxInt64-1, math.MinInt64+1, math.MaxInt64-32)
	for _, a := range far {
		for _, b := range far {
			for _, c := range far {
				expectSteady(t, "places of "+shown(a, b, c), func() string {
					ahead, ok := impl.ForecastBy(rough(), a, b, c)
					misses, okMisses := impl.RollMisses(rough(), 3, a, b, c)
					others, okOthers := impl.RollMisses(rough(), a, 1, b, c)
					best, okBest := impl.BestKind(rough(), a, b, c)
					shared, okShared := impl.RollsShared([][]float32{rough(), wavy()}, 2, a, b, c, 2)
					return shown(ahead, ok, misses, okMisses, others, okOthers, best, okBest, shared, okShared)
				})
			}
		}
	}
}

func TestTreeCallsAreSteady(t *testing.T) {
	for _, parents := range append(wrongParents(), manyTrees()...) {
		for _, values := range append(wildLists(), wholeNumbers(len(parents)), make([]float32, len(parents)), scatter(len(parents)), repeated(float32(3e38), len(parents))) {
			for _, by := range []float32{0, 0.5, -1, fromBits(nanBits)} {
				expectSteady(t, "sums of "+shown(parents, values, by), func() string { return treeResults(parents, values, by) })
			}
		}
	}
}

func TestForecastArgumentsAreLeft(t *testing.T) {
	whole, wholeOther := append(zeroSigned(), 7), append(zeroSigned(), 3)
	slices.Reverse(wholeOther[:8])
	wholeParents := append(crossed(), 1, 2)
	wholeWeights := []float32{0.5, fromBits(negZero), 0, 0.25, 7, 8}
	list, other := roomy(whole), roomy(wholeOther)
	wholeLists := [][]float32{list, other, list, other, {1}, {2}}
	before := shown(whole, wholeOther, wholeParents, wholeWeights, wholeLists)
	for _, n := range append(wildInts(), 4, 5, 6) {
		for _, by := range []float32{0, 0.5, 1} {
			forecastResults(list, other, n, by)
			treeResults(roomy(wholeParents), list, by)
			impl.BlendOf(roomy(wholeLists), roomy(wholeWeights))
			impl.MiddleBlend(roomy(wholeLists))
			impl.RanksMiss(roomy(wholeLists), list)
			impl.LearnWeights(roomy(wholeLists), other, by)
			impl.RollsShared(roomy(wholeLists), n, 1, 1, 1, 3)
			impl.TreeSums(roomy(wholeParents), roomy(wholeWeights))
		}
	}
	expect(t, "arguments behind the calls", shown(whole, wholeOther, wholeParents, wholeWeights, wholeLists), before)
	high := append(heights()[:8:8], 7, 8)
	before = shown(high)
	impl.WeightsByMiss(roomy(high))
	impl.SplitDown(roomy(wholeParents), roomy(high))
	impl.RunStock(roomy(high), 5, 6, 7, 2)
	impl.MeetMiddle(5, roomy(high))
	expect(t, "heights behind the calls", shown(high), before)
}

// expectNew holds a result behind changes of an earlier one, and the arguments
// behind them.
func expectNew(t *testing.T, what string, maker numberMaker, given []float32, arguments func() string) {
	t.Helper()
	before := arguments()
	first, ok := maker(given)
	want := shown(first, ok)
	if !ok {
		t.Fatalf("%s fails", what)
	}
	spoil(first, 77)
	expect(t, "arguments behind changes of a result of "+what, arguments(), before)
	second, ok := maker(given)
	expect(t, "a result behind changes of "+what, shown(second, ok), want)
}

func TestForecastResultsAreNew(t *testing.T) {
	list, other, parents := heights()[:8], rough()[:8], crossed()
	arguments := func() string { return shown(list, other, parents) }
	for _, n := range []int64{1, 2} {
		for i, maker := range forecastMakers(other, n, 0.5) {
			expectNew(t, "forecast maker "+shown(i, n), maker, list, arguments)
		}
	}
	for i, maker := range treeMakers(parents, 5) {
		given := list
		if i == 0 {
			given = list[:4] // as many as there are leaves
		}
		expectNew(t, "tree maker "+shown(i), maker, given, arguments)
	}
	// A tree of one gives back what it is given.
	for i, maker := range treeMakers([]int64{-1}, 7) {
		expectNew(t, "tree maker of one "+shown(i), maker, list[:1], arguments)
	}
	ranks, ok := impl.RanksMiss([][]float32{list, other}, list)
	want := shown(ranks, ok)
	spoil(ranks, 77)
	ranks, ok = impl.RanksMiss([][]float32{list, other}, list)
	expect(t, "ranks behind changes", shown(ranks, ok), want)
}
