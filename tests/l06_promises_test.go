package tests

import (
	"math"
	"slices"
	"testing"

	"loop.example/g01375/impl"
)

// TestOriginsMissByKinds holds the misses of origins against what the kinds
// tell of the numbers before them.
func TestOriginsMissByKinds(t *testing.T) {
	for _, list := range [][]float32{{1, 2}, rough(), wavy(), tiny(), heights(), wholeNumbers(40)} {
		for kind := range int64(impl.MaxKind) {
			for period := int64(1); period < int64(len(list)); period += 3 {
				for first := period; first < int64(len(list)); first += 4 {
					for _, ahead := range []int64{1, 2, 5, impl.MaxReach} {
						expectOrigins(t, list, kind, period, first, ahead)
					}
				}
			}
		}
	}
}

func expectOrigins(t *testing.T, list []float32, kind, period, first, ahead int64) {
	t.Helper()
	what := shown(list, kind, period, first, ahead)
	var want []float32
	var squares float32
	for place := first; place+ahead-1 < int64(len(list)); place++ {
		told, ok := impl.ForecastBy(list[:place], kind, period, ahead)
		if !ok || int64(len(told)) != ahead {
			t.Fatalf("no forecast at %d of %s", place, what)
		}
		miss := list[place+ahead-1] - told[ahead-1]
		want = append(want, miss)
		squares += miss * miss
	}
	misses, ok := impl.RollMisses(list, kind, period, first, ahead)
	expect(t, "misses of "+what, shown(misses, ok), shown(want, want != nil))
	shared, ok := impl.RollsShared([][]float32{list}, kind, period, first, ahead, 1)
	if want == nil {
		expect(t, "rolls shared of "+what, shown(shared, ok), noNumbers)
		return
	}
	expect(t, "rolls shared of "+what, shown(shared, ok), sure(squares/float32(len(want))))
}

func TestNoKindIsBetter(t *testing.T) {
	for _, list := range [][]float32{{1, 2, 3, 4}, {5, 5, 5, 5, 5}, rough(), wavy(), heights(), wholeNumbers(30), going(3, 0, []float32{1, -2, 5}, 0, 20)} {
		for period := int64(1); period <= 4; period++ {
			for first := period; first+1 < int64(len(list)); first++ {
				for ahead := int64(1); ahead <= 2; ahead++ {
					best, ok := impl.BestKind(list, period, first, ahead)
					if !ok || best < 0 || best >= impl.MaxKind {
						t.Fatalf("best kind for %s: got %d, %t", shown(list, period, first, ahead), best, ok)
					}
					least, _ := impl.RollsShared([][]float32{list}, best, period, first, ahead, 1)
					for kind := range int64(impl.MaxKind) {
						other, _ := impl.RollsShared([][]float32{list}, kind, period, first, ahead, 1)
						if other[0] < least[0] || kind < best && other[0] == least[0] {
							t.Errorf("the kind %d misses by %g, and the best one, %d, by %g", kind, other[0], best, least[0])
						}
					}
				}
			}
		}
	}
}

// TestKindsGoOn tells of series that go on as a kind tells, so that it misses
// by nothing.
func TestKindsGoOn(t *testing.T) {
	season := []float32{4, -1, 9, 2}
	rows := []struct {
		list, on []float32
		kind     int64
	}{
		{repeated(float32(7.3), 20), repeated(float32(7.3), impl.MaxReach), 0},
		{going(0, 0, season, 0, 22), going(0, 0, season, 22, impl.MaxReach), 1},
		{going(5, 2, []float32{0}, 0, 20), going(5, 2, []float32{0}, 20, impl.MaxReach), 3},
		{going(5, -0.75, []float32{0}, 0, 20), going(5, -0.75, []float32{0}, 20, impl.MaxReach), 3},
	}
	for _, row := range rows {
		ahead, ok := impl.ForecastBy(row.list, row.kind, 4, impl.MaxReach)
		expect(t, "ahead of "+shown(row.list), shown(ahead, ok), shown(row.on, true))
		misses, ok := impl.RollMisses(append(slices.Clone(row.list), row.on...), row.kind, 4, 4, 3)
		expect(t, "misses of "+shown(row.list), shown(misses, ok), shown(make([]float32, len(row.list)+impl.MaxReach-6), true))
		best, ok := impl.BestKind(row.list, 4, 5, 3)
		expect(t, "best kind for "+shown(row.list), shown(best, ok), shown(row.kind, true))
	}
	for _, list := range [][]float32{rough(), wavy(), wholeNumbers(impl.MaxLong)} {
		mean, _ := impl.MeanOf(list)
		levels, _ := impl.SimpleLevels(list, 0.3)
		for kind, x := range map[int64]float32{0: list[len(list)-1], 2: mean, 4: levels[len(levels)-1]} {
			ahead, ok := impl.ForecastBy(list, kind, 3, 7)
			expect(t, "ahead by "+shown(kind), shown(ahead, ok), shown(repeated(x, 7), true))
		}
	}
}

func TestMeasuresAreOrdered(t *testing.T) {
	for _, list := range [][]float32{rough(), wavy(), heights()[:12], placesOf(12)} {
		for _, guesses := range [][]float32{rough(), wavy(), heights()[:12], repeated(float32(0.3), 12)} {
			mean, _ := impl.MeanMiss(list, guesses)
			size, _ := impl.SizeMiss(list, guesses)
			root, _ := impl.RootMiss(list, guesses)
			share, _ := impl.ShareMiss(list, guesses)
			half, ok := impl.QuantileMiss(list, guesses, 0.5)
			if !ok || math.Abs(float64(mean)) > float64(size)*1.000001 || size > root*1.000001 || share > 2.000001 || half != size/2 {
				t.Errorf("measures of %s and %s: %g, %g, %g, %g, %g", shown(list), shown(guesses), mean, size, root, share, half)
			}
			turned, _ := impl.ShareMiss(guesses, list)
			expect(t, "a share turned around", shown(turned), shown(share))
			back, _ := impl.MeanMiss(guesses, list)
			expect(t, "a mean turned around", shown(back+0), shown(0-mean))
			cover, ok := impl.CoverOf(guesses, guesses, guesses)
			expect(t, "a cover by itself", shown(cover, ok), shown(float32(1), true))
		}
		expect(t, "no misses", missMeasures(list, list), "00000000 true; 00000000 true; 00000000 true; 00000000 true")
	}
}

// TestWeightsMakeOne also tells that weights are greater where misses are less,
// and that lists that are equal are blended to themselves.
func TestWeightsMakeOne(t *testing.T) {
	for count := 1; count <= impl.MaxWays; count++ {
		lists := make([][]float32, count)
		misses := make([]float32, count)
		for i := range lists {
			lists[i] = []float32{2, 5 + 0.5*float32(i*3%8), 1}
			misses[i], _ = impl.SizeMiss([]float32{2.5, 5, 1}, lists[i])
		}
		byMiss, ok := impl.WeightsByMiss(misses)
		learned, okLearned := impl.LearnWeights(lists, []float32{2.5, 5, 1}, 0.3)
		if !ok || !okLearned {
			t.Fatalf("no weights of %s", shown(lists))
		}
		for _, weights := range [][]float32{byMiss, learned} {
			expectNear(t, "the sum of weights", []float32{float32(sumOf(weights))}, []float32{1})
			for i, weight := range weights {
				for k, other := range weights {
					if (misses[i] < misses[k]) != (weight > other) {
						t.Errorf("the weights of %s are %s", shown(misses), shown(weights))
					}
				}
			}
			blend, _ := impl.BlendOf(repeated([]float32{3, -7}, count), weights)
			expectWithin(t, "a blend of equal lists", blend, []float32{3, -7}, 0.00001)
		}
		middle, ok := impl.MiddleBlend(repeated(rough(), count))
		expect(t, "the middle of equal lists", shown(middle, ok), shown(rough(), true))
	}
}

func sumOf(list []float32) float64 {
	var sum float64
	for _, x := range list {
		sum += float64(x)
	}
	return sum
}

// manyTrees returns trees of all shapes and sizes.
func manyTrees() [][]int64 {
	trees := [][]int64{twoLevels(), crossed(), chained(impl.MaxParts), fanned(impl.MaxParts)}
	for count := 1; count <= impl.MaxParts; count++ {
		for step := range 9 {
			parents := []int64{-1}
			for place := 1; place < count; place++ {
				parents = append(parents, int64((place*place*7+step*place+step)%place))
			}
			trees = append(trees, parents)
		}
	}
	return trees
}

// leavesOf returns the places of those that are no parents.
func leavesOf(parents []int64) []int {
	var leaves []int
	for place := range parents {
		if !slices.Contains(parents, int64(place)) {
			leaves = append(leaves, place)
		}
	}
	return leaves
}

// expectSums holds each value of a parent against the sum of its family.
func expectSums(t *testing.T, what string, parents []int64, values []float32, slack float64) {
	t.Helper()
	sums := make([]float64, len(values))
	for place := len(values) - 1; place > 0; place-- {
		sums[parents[place]] += float64(values[place])
	}
	for place, sum := range sums {
		if slices.Contains(parents, int64(place)) && math.Abs(sum-float64(values[place])) > slack {
			t.Errorf("%s: the value %d of %s is no sum by %s", what, place, shown(values), shown(parents))
		}
	}
	good, ok := impl.IsTreeSum(parents, values, float32(slack))
	expect(t, what+": a tree sum "+shown(parents, values), shown(good, ok), "true true")
}

func TestSumsOfTreesAreSums(t *testing.T) {
	for _, parents := range manyTrees() {
		for _, list := range [][]float32{wavy(), rough(), placesOf(impl.MaxParts), wholeNumbers(impl.MaxParts)} {
			at := leavesOf(parents)
			values, ok := impl.TreeSums(parents, list[:len(at)])
			if !ok || len(values) != len(parents) {
				t.Fatalf("no tree sums by %s", shown(parents))
			}
			for i, place := range at {
				expect(t, "a leaf", shown(values[place]), shown(list[i]))
			}
			expectSums(t, "tree sums", parents, values, 0.001)
			good, ok := impl.IsTreeSum(parents, values, 0)
			expect(t, "a tree sum to the last bit", shown(good, ok), "true true")
			up, ok := impl.SumUp(parents, values)
			expect(t, "sums of sums", shown(up, ok), shown(values, true))
			for place := range values {
				if slices.Contains(parents, int64(place)) {
					values[place] += 1e6
				}
			}
			again, ok := impl.SumUp(parents, values)
			expect(t, "sums of leaves alone", shown(again, ok), shown(up, true))
			good, ok = impl.IsTreeSum(parents, values, 1000)
			expect(t, "values that are no sums", shown(good, ok), shown(len(parents) == 1, true))
		}
	}
}

func TestSumsSplitDownAreSums(t *testing.T) {
	for _, parents := range manyTrees() {
		for _, list := range [][]float32{heights(), placesOf(13)[1:], {100, 1, 2, 1, 2, 1, 2, 1, 2, 1, 2, 1}} {
			values := slices.Clone(list[:len(parents)])
			split, ok := impl.SplitDown(parents, values)
			if !ok || len(split) != len(parents) || split[0] != values[0] {
				t.Fatalf("split down of %s by %s: got %s, %t", shown(values), shown(parents), shown(split), ok)
			}
			expectSums(t, "split down", parents, split, 0.0001)
			// Those of the same parent keep their shares.
			for i := 1; i < len(parents); i++ {
				for k := 1; k < i; k++ {
					if parents[i] == parents[k] && math.Abs(float64(split[i]*values[k]-split[k]*values[i])) > 0.0001*float64(values[i]*values[k]) {
						t.Errorf("split down of %s by %s: %s", shown(values), shown(parents), shown(split))
					}
				}
			}
			again, ok := impl.SplitDown(parents, split)
			if !ok {
				t.Fatalf("nothing split down of %s", shown(split))
			}
			expectWithin(t, "split down again", again, split, 0.0001)
		}
	}
}

func TestSumsThatMeetAreSums(t *testing.T) {
	for count := 1; count <= impl.MaxParts; count++ {
		for _, list := range [][]float32{rough(), wavy(), placesOf(impl.MaxParts)} {
			for _, total := range []float32{0, 10, -77.7, 5000} {
				whole, parts, ok := impl.MeetMiddle(total, list[:count])
				if !ok || len(parts) != count {
					t.Fatalf("no middle of %g and %s", total, shown(list[:count]))
				}
				expectWithin(t, "the sum of parts", []float32{float32(sumOf(parts))}, []float32{whole}, 0.001)
				for i, x := range parts {
					expectWithin(t, "the way of a part", []float32{x - list[i]}, []float32{total - whole}, 0.001)
				}
			}
		}
	}
}

// TestStocksAreKept goes the way of stocks and orders once more, in integers.
func TestStocksAreKept(t *testing.T) {
	for _, span := range []struct{ start, low, high int }{{0, 0, 1}, {10, 4, 9}, {3, 7, 20}, {50, 0, 30}, {0, 59, 60}} {
		for lead := 1; lead <= impl.MaxReach; lead += 3 {
			list := wholeNumbers(60)
			comes := make([]int, len(list)+impl.MaxReach)
			want := make([]float32, len(list))
			stock, onWay, lacking, orders := span.start, 0, 0, 0
			for i := range list {
				list[i] = float32(int(list[i]) % 7)
				stock, onWay = stock+comes[i]-int(list[i]), onWay-comes[i]
				lacking += max(-stock, 0)
				stock = max(stock, 0)
				if order := span.high - stock - onWay; stock+onWay <= span.low {
					comes[i+lead] = order
					onWay += order
					orders++
				}
				want[i] = float32(stock)
			}
			stocks, lost, count, ok := impl.RunStock(list, float32(span.start), float32(span.low), float32(span.high), int64(lead))
			expect(t, "stocks by "+shown(span.start, span.low, span.high, lead), shown(stocks, lost, count, ok), shown(want, float32(lacking), orders, true))
		}
	}
}

func TestStocksToOrder(t *testing.T) {
	for _, list := range [][]float32{rough(), heights(), needs(), wholeNumbers(impl.MaxLong)} {
		for share := float32(0); share <= 1; share += 0.125 {
			level, ok := impl.StockLevel(list, 1-share, share)
			want, _ := impl.QuantileOf(list, share)
			expect(t, "a stock level", shown(level, ok), shown(want, true))
		}
		mean, _ := impl.MeanOf(list)
		spread, _ := impl.SpreadOf(list)
		for _, lead := range []int64{1, 4, 9, 16, 25} {
			point, ok := impl.OrderPoint(list, lead, 1.5)
			root := map[int64]float32{1: 1, 4: 2, 9: 3, 16: 4, 25: 5}[lead]
			expect(t, "an order point", shown(point, ok), sureNumber(float32(lead)*mean+1.5*spread*root))
		}
	}
	for size := float32(1); size < 100; size++ {
		got, ok := impl.OrderSize(size*size/2, 3, 3)
		expect(t, "an order size", shown(got, ok), sureNumber(size))
	}
}

func sureNumber(x float32) string { return shown(x, true) }

func TestForecastExamples(t *testing.T) {
	for kind, want := range [][]float32{{3}, {2, 3}, {2}, {4}} {
		ahead, ok := impl.ForecastBy([]float32{1, 2, 3}, int64(kind), 2, int64(len(want)))
		expect(t, "1, 2, 3 by the kind "+shown(kind), shown(ahead, ok), shown(want, true))
	}
	mean, ok := impl.MeanMiss([]float32{1, -1}, []float32{0, 0})
	expect(t, "the mean of misses of 1 and -1", shown(mean, ok), sureNumber(0))
	root, ok := impl.RootMiss([]float32{1, -1}, []float32{0, 0})
	expect(t, "the root of misses of 1 and -1", shown(root, ok), sureNumber(1))
	total, parts, ok := impl.MeetMiddle(10, []float32{3, 4})
	expect(t, "10 and 3, 4", shown(total, parts, ok), shown(float32(9), []float32{4, 5}, true))
}
