package tests

import (
	"math"
	"slices"
	"strings"
	"testing"

	"loop.example/g01375/impl"
)

// fitResults tells what the functions of chapter 3 return for a series, one
// per line.
func fitResults(list []float32, n int64, by float32) string {
	var lines []string
	add := func(values ...any) { lines = append(lines, shown(values...)) }
	base, slope, ok := impl.LineFit(list)
	add(base, slope, ok)
	base, slope, ok = impl.WeightFit(list, list, list)
	add(base, slope, ok)
	slope, ok = impl.MiddleSlope(list)
	add(slope, ok)
	sum, ok := impl.LikeSum(list, n)
	add(sum, ok)
	count, ok := impl.PairCount(list, list)
	add(count, ok)
	like, ok := impl.RankLike(list, list)
	add(like, ok)
	lead, ok := impl.LeadOf(list, list, n)
	add(lead, ok)
	together, ok := impl.TogetherOf(list, list, n, n)
	add(together, ok)
	period, least, ok := impl.BestPeriod(list, n, n+1, n)
	add(period, least, ok)
	at, ok := impl.HarmonicAt(list, by, n)
	add(at, ok)
	lags, now, ok := impl.LagColumns(list, n)
	add(lags, now, ok)
	lineList, ok := impl.LinesOf(list)
	add(lineList, ok)
	for _, maker := range fitMakers(n, by) {
		first, second, ok := maker(list)
		add(first, second, ok)
	}
	return strings.Join(lines, "\n")
}

// fitMakers are the functions that make one or two lists of numbers of a
// series.
func fitMakers(n int64, by float32) []func([]float32) ([]float32, []float32, bool) {
	type numbers = []float32
	one := func(maker func(numbers) (numbers, bool)) func(numbers) (numbers, numbers, bool) {
		return func(list numbers) (numbers, numbers, bool) {
			made, ok := maker(list)
			return made, nil, ok
		}
	}
	return []func(numbers) (numbers, numbers, bool){
		impl.StepWaves,
		one(func(list numbers) (numbers, bool) { return impl.ColumnFit([]numbers{list}, list) }),
		one(func(list numbers) (numbers, bool) { return impl.ColumnFit(repeated(list, int(n%9+9)%9), list) }),
		one(func(list numbers) (numbers, bool) { return impl.FittedOf([]numbers{list, list}, numbers{by, 1}) }),
		one(func(list numbers) (numbers, bool) { return impl.HarmonicFit(list, by, n) }),
		one(func(list numbers) (numbers, bool) { return impl.SelfLikes(list, n) }),
		one(func(list numbers) (numbers, bool) { return impl.PartLikes(list, n) }),
		one(func(list numbers) (numbers, bool) { return impl.CrossLikes(list, list, n) }),
		one(impl.LinePowers),
		one(func(list numbers) (numbers, bool) { return impl.Tapered(list, n) }),
		one(func(list numbers) (numbers, bool) { return impl.BackOfWaves(list, list) }),
		one(func(list numbers) (numbers, bool) {
			lines, _ := impl.LinesOf(list)
			return impl.BackOfLines(lines, int64(len(list)))
		}),
		func(list numbers) (numbers, numbers, bool) {
			rest, squares, ok := impl.RestOfFit([]numbers{list}, list)
			return rest, numbers{squares}, ok
		},
		func(list numbers) (numbers, numbers, bool) {
			means, squares, ok := impl.FoldedBy(list, n)
			return means, numbers{squares}, ok
		},
	}
}

func TestWrongSeriesHaveNoFits(t *testing.T) {
	for _, list := range wrongSeries() {
		for _, n := range []int64{0, 1, 2} {
			for i, line := range strings.Split(fitResults(list, n, 2), "\n") {
				if strings.Trim(line, "0[] ") != "false" {
					t.Errorf("function %d of %s: got %s", i, shown(list, n), line)
				}
			}
		}
	}
}

func TestFitCallsAreSteady(t *testing.T) {
	lists := append(wrongSeries(), wavy(), rough(), steep(), tiny(), falling(), []float32{5}, []float32{fromBits(negZero)}, []float32{1, 2, 3},
		repeated(float32(0.3), 6), repeated(float32(0.1), impl.MaxLong), repeated(float32(3e38), impl.MaxLong), specialNumbers(), scatter(impl.MaxLong), scatter(7))
	for _, list := range lists {
		for _, n := range append(wildInts(), 4, 5, 6, 7, 16, 17, 24, 48, 49, 1000, -1000) {
			for _, by := range []float32{0, 0.5, 1, 3.7, -1, 3e38, fromBits(1), fromBits(negZero), fromBits(infBits), fromBits(nanBits)} {
				expectSteady(t, "functions of "+shown(list, n, by), func() string { return fitResults(list, n, by) })
			}
		}
	}
}

func TestLineCallsAreSteady(t *testing.T) {
	numbers := append(specialNumbers(), scatter(20)...)
	for i := range numbers {
		lines := linesOf(numbers[:i/2*2]...)
		for _, long := range append(wildInts(), int64(i), int64(i/2*2-2), int64(i/2*2-1)) {
			expectSteady(t, "back of "+shown(lines, long), func() string {
				list, ok := impl.BackOfLines(lines, long)
				return shown(list, ok)
			})
		}
	}
}

func TestFitArgumentsAreLeft(t *testing.T) {
	whole, wholeTerms := append(zeroSigned(), 7), []float32{2, 3, 5, 7}
	wholeLines := linesOf(1, 0, 2, 3, 4, 5, 6, 7, 8, 9, 7, 7, 8, 8)
	list, terms, lines := roomy(whole), roomy(wholeTerms), roomy(wholeLines)
	wholeColumns := [][]float32{list, placesOf(len(list)), {1}, {2}}
	columns := roomy(wholeColumns)
	before := shown(whole, wholeTerms, wholeLines, wholeColumns)
	for _, n := range append(wildInts(), 4, 5) {
		for _, by := range []float32{0.5, 3.7, 7} {
			fitResults(list, n, by)
		}
	}
	impl.WeightFit(list, placesOf(len(list)), columns[1])
	_, okFit := impl.ColumnFit(columns, list)
	_, okFitted := impl.FittedOf(columns, terms)
	_, _, okRest := impl.RestOfFit(columns, list)
	_, okBack := impl.BackOfLines(lines, int64(len(list)))
	expect(t, "the calls", shown(okFit, okFitted, okRest, okBack), "true true true true")
	expect(t, "arguments behind the calls", shown(whole, wholeTerms, wholeLines, wholeColumns), before)
}

func TestFitResultsAreNew(t *testing.T) {
	list := wavy()
	before := shown(list)
	for _, n := range []int64{0, 1, 2} {
		for i, maker := range fitMakers(n, 7) {
			first, second, _ := maker(list)
			want, wantSecond := shown(first), shown(second)
			spoil(first, 77)
			expect(t, "another result behind changes of one "+shown(i), shown(second), wantSecond)
			spoil(second, 78)
			first, second, _ = maker(list)
			expect(t, "a list behind changes of a result "+shown(i), shown(list), before)
			expect(t, "results behind changes "+shown(i), shown(first, second), want+" "+wantSecond)
		}
	}
	lines, _ := impl.LinesOf(list)
	want := shown(lines)
	spoil(lines, 77)
	lines, _ = impl.LinesOf(list)
	expect(t, "lines behind changes", shown(lines), want)
}

func TestColumnsShareNothing(t *testing.T) {
	list := wavy()
	before := shown(list)
	for spoiled := range impl.MaxColumns {
		columns, now, ok := impl.LagColumns(list, impl.MaxColumns-1)
		if !ok || len(columns) != impl.MaxColumns {
			t.Fatalf("got %d columns, %t", len(columns), ok)
		}
		others := append(slices.Clone(columns[:spoiled]), columns[spoiled+1:]...)
		want := shown(others, now)
		spoil(columns[spoiled], 77)
		expect(t, "other columns behind changes of one", shown(others, now), want)
		want = shown(columns)
		spoil(now, 78)
		expect(t, "columns behind changes of the numbers", shown(columns), want)
		expect(t, "a list behind changes of columns", shown(list), before)
	}
}

func TestPeriodWorkersAreJoined(t *testing.T) {
	expectJoined(t, func() { impl.BestPeriod(wholeNumbers(impl.MaxLong), 2, 48, impl.MaxWorkers) })
	expectJoined(t, func() { impl.BestPeriod(repeated(float32(3e38), impl.MaxLong), 2, 48, impl.MaxWorkers) })
}

func lengthOf(list []float32) float64 {
	sum := 0.0
	for _, x := range list {
		sum += float64(x) * float64(x)
	}
	return math.Sqrt(sum)
}

// expectUpright holds what a fit leaves against each column.
func expectUpright(t *testing.T, columns [][]float32, y []float32) {
	t.Helper()
	rest, squares, ok := impl.RestOfFit(columns, y)
	if !ok {
		t.Fatalf("no rest of %s", shown(columns, y))
	}
	for _, column := range columns {
		sum := 0.0
		for i, x := range column {
			sum += float64(x) * float64(rest[i])
		}
		if math.Abs(sum) > 0.0001*lengthOf(column)*lengthOf(y) {
			t.Errorf("rest %s is not upright on %s: %g", shown(rest), shown(column), sum)
		}
	}
	if long := lengthOf(rest); math.Abs(float64(squares)-long*long) > 0.00001*long*long {
		t.Errorf("squares of %s: got %g", shown(rest), squares)
	}
}

func TestRestsAreUpright(t *testing.T) {
	for _, y := range [][]float32{wavy(), rough(), wholeNumbers(12), wholeNumbers(40), wholeNumbers(impl.MaxLong)} {
		expectUpright(t, curves(1, len(y)), y)
		expectUpright(t, curves(2, len(y)), y)
		expectUpright(t, corners(impl.MaxColumns, len(y)), y)
		expectUpright(t, [][]float32{placesOf(len(y)), repeated(float32(1), len(y))}, y)
		for lags := int64(1); lags < impl.MaxColumns; lags++ {
			columns, now, _ := impl.LagColumns(y, lags)
			expectUpright(t, columns, now)
		}
	}
}

func TestLinesAreUpright(t *testing.T) {
	for _, y := range [][]float32{wavy(), rough(), wholeNumbers(impl.MaxLong), {2, 9}} {
		base, slope, ok := impl.LineFit(y)
		columns := [][]float32{repeated(float32(1), len(y)), placesOf(len(y))}
		terms, okTerms := impl.ColumnFit(columns, y)
		if !ok || !okTerms {
			t.Fatalf("no line of %s", shown(y))
		}
		size := lengthOf(y)
		if math.Abs(float64(base-terms[0])) > 0.0001*size || math.Abs(float64(slope-terms[1])) > 0.0001*size {
			t.Errorf("line of %s: got %g, %g, not %g", shown(y), base, slope, terms)
		}
		weighed, weighedSlope, _ := impl.WeightFit(columns[1], y, columns[0])
		if math.Abs(float64(base-weighed)) > 0.0001*size || math.Abs(float64(slope-weighedSlope)) > 0.0001*size {
			t.Errorf("line of %s with the same weights: got %g, %g, not %g, %g", shown(y), weighed, weighedSlope, base, slope)
		}
	}
}

func TestWavesAreFound(t *testing.T) {
	want := []float32{3, -2, 0.5, 1.25, 4}
	list := make([]float32, 40)
	for at := range list {
		x, ok := impl.HarmonicAt(want, 9.5, int64(at))
		if !ok {
			t.Fatalf("no waves at %d", at)
		}
		list[at] = x
	}
	terms, ok := impl.HarmonicFit(list, 9.5, 2)
	if !ok {
		t.Fatal("no waves found")
	}
	for i, term := range terms {
		if math.Abs(float64(term-want[i])) > 0.0001 {
			t.Errorf("term %d: got %g, want %g", i, term, want[i])
		}
	}
}

func expectNear(t *testing.T, what string, got, want []float32) {
	t.Helper()
	expectWithin(t, what, got, want, 0.000001*lengthOf(want))
}

func expectWithin(t *testing.T, what string, got, want []float32, slack float64) {
	t.Helper()
	if len(got) != len(want) {
		t.Fatalf("%s: got %d numbers, want %d", what, len(got), len(want))
	}
	for i := range want {
		if !(math.Abs(float64(got[i])-float64(want[i])) <= slack) {
			t.Errorf("%s: place %d: got %g, want %g", what, i, got[i], want[i])
		}
	}
}

func TestLinesLeadBack(t *testing.T) {
	for long := 1; long <= impl.MaxLong; long++ {
		for _, list := range [][]float32{wholeNumbers(long), repeated(float32(0.1), long), append(make([]float32, long-1), 5)} {
			lines, ok := impl.LinesOf(list)
			back, okBack := impl.BackOfLines(lines, int64(long))
			if !ok || !okBack {
				t.Fatalf("%s does not lead back", shown(list))
			}
			expectNear(t, "back of lines of "+shown(list), back, list)
		}
		if long%2 == 0 {
			means, steps, _ := impl.StepWaves(wholeNumbers(long))
			back, ok := impl.BackOfWaves(means, steps)
			expect(t, "back of step waves", shown(back, ok), shown(wholeNumbers(long), true))
		}
	}
}

// shuffled returns the numbers from 0 on, each once, in an order by a step
// that has no divisor in common with how many there are.
func shuffled(step, count int) []float32 {
	list := make([]float32, count)
	for i := range list {
		list[i] = float32(i * step % count)
	}
	return list
}

func TestPairsAndRanksAreExact(t *testing.T) {
	const count = 89
	for step := 1; step < count; step++ {
		list := shuffled(step, count)
		turned := 0
		squares := 0.0
		for i, x := range list {
			for _, y := range list[i+1:] {
				if y < x {
					turned++
				}
			}
			squares += (float64(x) - float64(i)) * (float64(x) - float64(i))
		}
		pairs, ok := impl.PairCount(placesOf(count), list)
		expect(t, "pairs of "+shown(step), shown(pairs, ok), shown(count*(count-1)/2-2*turned, true))
		like, ok := impl.RankLike(placesOf(count), list)
		want := 1 - 6*squares/(count*(count*count-1))
		if !ok || math.Abs(float64(like)-want) > 0.000001 {
			t.Errorf("likeness of ranks of %d: got %g, %t, want %g", step, like, ok, want)
		}
		cubes := make([]float32, count)
		for i, x := range list {
			cubes[i] = x*x*x - 1000
		}
		risen, ok := impl.RankLike(placesOf(count), cubes)
		expect(t, "likeness of ranks that rise in the same way", shown(risen, ok), shown(like, true))
	}
}

func TestFitExamples(t *testing.T) {
	base, slope, ok := impl.LineFit([]float32{1, 3, 5})
	expect(t, "the line of 1, 3, 5", shown(base, slope, ok), shown(float32(1), float32(2), true))
	likes, ok := impl.SelfLikes([]float32{1, -1, 1, -1}, 1)
	expect(t, "the likes of 1, -1, 1, -1", shown(likes, ok), sure(1, -0.75))
	means, left, ok := impl.FoldedBy([]float32{1, 5, 1, 5}, 2)
	expect(t, "1 5 1 5 folded by 2", shown(means, left, ok), shown([]float32{1, 5}, float32(0), true))
}
