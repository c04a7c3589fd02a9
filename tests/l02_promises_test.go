package tests

import (
	"math"
	"strings"
	"testing"

	"loop.example/g01375/impl"
)

// seriesResults tells what the functions of a series return, one per line.
func seriesResults(list []float32, n int64, by float32) string {
	mean, ok := impl.MeanOf(list)
	lines := []string{shown(mean, ok)}
	add := func(values ...any) { lines = append(lines, shown(values...)) }
	spread, ok := impl.SpreadOf(list)
	add(spread, ok)
	median, ok := impl.MedianOf(list)
	add(median, ok)
	quantile, ok := impl.QuantileOf(list, by)
	add(quantile, ok)
	at, step, ok := impl.StepOf(list)
	add(at, step, ok)
	trend, season, rest, ok := impl.TakeApart(list, n, n, n)
	add(trend, season, rest, ok)
	far, ok := impl.FarOnes(list, by)
	add(far, ok)
	for _, maker := range seriesMakers(n, by) {
		made, ok := maker(list)
		add(made, ok)
	}
	return strings.Join(lines, "\n")
}

// seriesMakers are the functions that make one list of numbers of a series.
func seriesMakers(n int64, by float32) []func([]float32) ([]float32, bool) {
	type numbers = []float32
	return []func(numbers) (numbers, bool){
		impl.RanksOf, impl.RunningSums, impl.EvenSeries,
		func(list numbers) (numbers, bool) { return impl.MovingMean(list, n) },
		func(list numbers) (numbers, bool) { return impl.MovingMedian(list, n) },
		func(list numbers) (numbers, bool) { return impl.LagDifferences(list, n) },
		func(list numbers) (numbers, bool) { return impl.UndoDifferences(list, list) },
		func(list numbers) (numbers, bool) { return impl.TameOnes(list, by) },
		func(list numbers) (numbers, bool) { return impl.SeasonOf(list, n) },
		func(list numbers) (numbers, bool) { return impl.JoinSteps(list, n) },
		func(list numbers) (numbers, bool) { return impl.ThinSteps(list, n) },
		func(list numbers) (numbers, bool) { return impl.MeansShared([][]float32{list, list}, n) },
		func(list numbers) (numbers, bool) { return impl.FillGaps(list, repeated(true, len(list))) },
	}
}

func TestWrongSeriesFailWithZeros(t *testing.T) {
	want := []string{noNumber, noNumber, noNumber, noNumber, "0 " + noNumber, noParts, noNumbers}
	for range seriesMakers(1, 1) {
		want = append(want, noNumbers)
	}
	for _, list := range wrongSeries() {
		expect(t, "functions of "+shown(list), seriesResults(list, 1, 1), strings.Join(want, "\n"))
	}
}

func wildInts() []int64 {
	return []int64{0, 1, 2, 3, 8, 9, 12, 96, 97, -1, math.MinInt64, math.MaxInt64}
}

func TestSeriesCallsAreSteady(t *testing.T) {
	lists := append(wrongSeries(), wavy(), steep(), tiny(), []float32{5}, []float32{fromBits(negZero)}, repeated(float32(0.1), impl.MaxLong),
		repeated(float32(3e38), impl.MaxLong), specialNumbers(), scatter(impl.MaxLong), scatter(7))
	for _, list := range lists {
		for _, n := range wildInts() {
			for _, by := range []float32{0, 0.5, 1, -1, 3e38, fromBits(negZero), fromBits(infBits), fromBits(nanBits)} {
				expectSteady(t, "functions of "+shown(list, n, by), func() string { return seriesResults(list, n, by) })
			}
		}
	}
}

func TestDayCallsAreSteady(t *testing.T) {
	ints := append(wildInts(), firstDay-1, firstDay, lastDay, lastDay+1, 1900, 2199, 2000, 2200)
	for _, a := range ints {
		for _, b := range ints {
			for _, feasts := range [][]int64{nil, {3, 4}, {b}, {a, b}, repeated(a, 1000)} {
				expectSteady(t, "days with "+shown(a, b, feasts), func() string { return dayResults(a, b, feasts) })
			}
		}
	}
}

func dayResults(a, b int64, feasts []int64) string {
	long, okLong := impl.LongOfMonth(a, b)
	day, okDay := impl.DayOf(a, b, a)
	again, okAgain := impl.DayOf(2000, a, b)
	year, month, at, okDate := impl.DateOf(a)
	weekday, okWeekday := impl.WeekdayOf(a)
	weekYear, week, okWeek := impl.WeekOf(a)
	easter, okEaster := impl.EasterOf(a)
	in, okIn := impl.WeekdayIn(a, b, b, a)
	works, okWorks := impl.WorkDays(a, b, feasts)
	behind, okBehind := impl.WorkDayBehind(a, b, feasts)
	return shown(impl.IsLeap(a), long, okLong, day, okDay, again, okAgain, year, month, at, okDate, weekday, okWeekday,
		weekYear, week, okWeek, easter, okEaster, in, okIn, works, okWorks, behind, okBehind)
}

// zeroSigned differs from wavy by its zeros, which a function might exchange.
func zeroSigned() []float32 {
	minusZero := fromBits(negZero)
	return []float32{4, minusZero, 1, 0, 3, minusZero, 2, 9, 8}
}

func TestSeriesArgumentsAreLeft(t *testing.T) {
	whole := zeroSigned()
	wholeKnown := marks("-k-kk--kk")
	wholeFeasts := []int64{1, 2, 3, 5, 4}
	list, known, feasts := roomy(whole), roomy(wholeKnown), roomy(wholeFeasts)
	lists := [][]float32{list, list, {1}, {2}}
	before := shown(whole, wholeKnown, wholeFeasts, lists)
	for _, n := range wildInts() {
		seriesResults(list, n, 0.5)
		impl.UndoDifferences(list[:2], list[2:4])
		impl.MeansShared(roomy(lists), n)
	}
	impl.FillGaps(list, known)
	impl.WorkDays(0, 9, feasts)
	impl.WorkDayBehind(0, 9, feasts)
	expect(t, "arguments behind the calls", shown(whole, wholeKnown, wholeFeasts, lists), before)
}

// spoil overwrites all of the memory that a slice can reach.
func spoil[T any](list []T, by T) {
	list = list[:cap(list)]
	for i := range list {
		list[i] = by
	}
}

func TestSeriesResultsAreNew(t *testing.T) {
	list := zeroSigned()
	before := shown(list)
	for i, maker := range seriesMakers(1, 1e9) {
		first, _ := maker(list)
		want := shown(first)
		spoil(first, 77)
		second, _ := maker(list)
		expect(t, "a list behind changes of a result "+shown(i), shown(list), before)
		expect(t, "a result behind changes "+shown(i), shown(second), want)
	}
	far, _ := impl.FarOnes(list, 0)
	want := shown(far)
	spoil(far, 77)
	far, _ = impl.FarOnes(list, 0)
	expect(t, "far ones behind changes", shown(far), want)
}

func TestPartsShareNothing(t *testing.T) {
	list := wavy()
	trend, season, rest, _ := impl.TakeApart(list, int64(len(list)), 1, 1)
	want := shown(list, season, rest)
	spoil(trend, 77)
	expect(t, "the others behind changes of the trend", shown(list, season, rest), want)
	want = shown(list, trend, rest)
	spoil(season, 78)
	expect(t, "the others behind changes of the season", shown(list, trend, rest), want)
	want = shown(list, trend, season)
	spoil(rest, 79)
	expect(t, "the others behind changes of the rest", shown(list, trend, season), want)
}

// wholeNumbers returns a series of whole numbers, all of whose differences are
// exact.
func wholeNumbers(long int) []float32 {
	list := make([]float32, long)
	for i := range list {
		list[i] = float32((i*i*7919 + 31*i) % 100003)
	}
	return list
}

func TestDifferencesAreUndone(t *testing.T) {
	for long := 2; long <= impl.MaxLong; long += 5 {
		list := wholeNumbers(long)
		for lag := 1; lag < long; lag++ {
			differences, ok := impl.LagDifferences(list, int64(lag))
			if !ok {
				t.Fatalf("no differences of %d numbers with the lag %d", long, lag)
			}
			back, ok := impl.UndoDifferences(list[:lag], differences)
			if !ok || !sameNumbers(back, list) {
				t.Errorf("undone with the lag %d: got %s, want %s", lag, shown(back, ok), shown(list))
			}
		}
	}
}

func TestPartsMakeTheSeries(t *testing.T) {
	for _, list := range [][]float32{wavy(), wholeNumbers(impl.MaxLong), wholeNumbers(1), wholeNumbers(30), steep()} {
		for period := int64(1); period <= int64(len(list)); period += 3 {
			for side := int64(0); side <= impl.MaxLong; side += 8 {
				trend, season, rest, ok := impl.TakeApart(list, period, side, 1+side%8)
				if !ok {
					t.Fatalf("%s is not taken apart", shown(list, period, side))
				}
				expectParts(t, list, trend, season, rest, int(period))
			}
		}
	}
}

// expectParts holds the sums of the parts against the series, and the season
// against its period.
func expectParts(t *testing.T, list, trend, season, rest []float32, period int) {
	t.Helper()
	greatest := 0.0
	for _, x := range list {
		greatest = max(greatest, math.Abs(float64(x)))
	}
	for i, x := range list {
		sum := float64(trend[i]) + float64(season[i]) + float64(rest[i])
		if math.Abs(sum-float64(x)) > greatest*0x1p-20 {
			t.Errorf("place %d of %s: the parts make %g", i, shown(list), sum)
		}
		if !impl.SameNumber(season[i], season[i%period]) {
			t.Errorf("place %d of %s: the season is %g, not %g", i, shown(list), season[i], season[i%period])
		}
	}
}

func TestSeriesExamples(t *testing.T) {
	n, _ := impl.DayOf(2000, 3, 1)
	weekday, _ := impl.WeekdayOf(60)
	year, week, _ := impl.WeekOf(60)
	easter, _ := impl.EasterOf(2000)
	day, _ := impl.DayOf(2000, 4, 23)
	expect(t, "1 March and Easter of 2000", shown(n, weekday, year, week, easter, day), "60 2 2000 9 113 113")
	list := []float32{1, 2, 4}
	mean, _ := impl.MeanOf(list)
	median, _ := impl.MedianOf(list)
	differences, _ := impl.LagDifferences(list, 1)
	expect(t, "the series 1, 2, 4", shown(mean, median, differences), shown(float32(7)/3, float32(2), []float32{1, 2}))
}
