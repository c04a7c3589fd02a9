package tests

import (
	"math"
	"slices"
	"testing"

	"loop.example/g01375/impl"
)

// smallSeries returns whole numbers from 0 to 3, so that costs are exact and
// often equal.
func smallSeries(seed, long int) []float32 {
	list := make([]float32, long)
	for i := range list {
		list[i] = float32((seed*7 + i*i*5 + i*seed + seed*seed*3) % 11 % 4)
	}
	return list
}

// leastOfWays returns the least cost of all ways from two places on, each one
// gone on its own, and -1 if there is none.
func leastOfWays(a, b []float32, window, i, k int) float32 {
	if i >= len(a) || k >= len(b) || i-k > window || k-i > window {
		return -1
	}
	cost := float32(math.Abs(float64(a[i] - b[k])))
	if i == len(a)-1 && k == len(b)-1 {
		return cost
	}
	least := float32(-1)
	for _, next := range [][2]int{{i + 1, k}, {i, k + 1}, {i + 1, k + 1}} {
		rest := leastOfWays(a, b, window, next[0], next[1])
		if rest >= 0 && (least < 0 || rest < least) {
			least = rest
		}
	}
	if least < 0 {
		return -1
	}
	return cost + least
}

func TestWarpedWaysCostLeast(t *testing.T) {
	for seed := range 40 {
		for long := 1; long <= 5; long++ {
			for other := 1; other <= 6; other++ {
				a, b := smallSeries(seed, long), smallSeries(seed+3, other)
				for _, window := range []int{0, 1, 2, 5, impl.MaxLong} {
					want := leastOfWays(a, b, window, 0, 0)
					far, ok := impl.WarpFar(a, b, int64(window))
					expect(t, "the least cost of ways "+shown(a, b, window), shown(far, ok), shown(max(want, 0), want >= 0))
					costs, ok := impl.WarpCosts(a, b, int64(window))
					if !ok || len(costs) != long*other {
						t.Fatalf("costs of %s: got %s, %t", shown(a, b, window), shown(costs), ok)
					}
					for at, cost := range costs {
						i, k := at/other, at%other
						expect(t, "the least cost of ways "+shown(a, b, window, i, k), shown(cost), shown(leastOfWays(a[:i+1], b[:k+1], window, 0, 0)))
					}
				}
			}
		}
	}
}

// expectWay goes a way once more: its steps, its window, and its cost.
func expectWay(t *testing.T, a, b []float32, window int64) {
	t.Helper()
	far, okFar := impl.WarpFar(a, b, window)
	way, ok := impl.WarpWay(a, b, window)
	costs, okCosts := impl.WarpCosts(a, b, window)
	what := shown(a, b, window)
	if ok != okFar || !okCosts || len(costs) != len(a)*len(b) {
		t.Fatalf("a way, a cost, and costs of %s: %t, %t, %t", what, ok, okFar, okCosts)
	}
	if !ok {
		expect(t, "no last cost of "+what, shown(costs[len(costs)-1], far, way), shown(float32(-1), float32(0), []int64{}))
		return
	}
	if len(way) < 2 || len(way)%2 != 0 || way[0] != 0 || way[1] != 0 || way[len(way)-2] != int64(len(a)-1) || way[len(way)-1] != int64(len(b)-1) {
		t.Fatalf("a way of %s: %s", what, shown(way))
	}
	var sum float32
	for at := 0; at < len(way); at += 2 {
		i, k := way[at], way[at+1]
		if at > 0 {
			stepI, stepK := i-way[at-2], k-way[at-1]
			if stepI < 0 || stepI > 1 || stepK < 0 || stepK > 1 || stepI+stepK == 0 {
				t.Errorf("the way of %s steps by %d and %d", what, stepI, stepK)
			}
		}
		if max(i-k, k-i) > window {
			t.Errorf("the way of %s leaves its window at %d and %d", what, i, k)
		}
		sum += float32(math.Abs(float64(a[i] - b[k])))
		expect(t, "the cost of the way of "+what, shown(costs[i*int64(len(b))+k]), shown(sum))
	}
	expect(t, "the whole cost of the way of "+what, shown(far), shown(sum))
}

func TestWarpedWaysCostWhatIsTold(t *testing.T) {
	lists := [][]float32{{7}, {1, 2}, rough(), wavy(), heights(), tiny(), steep(), placesOf(30), wholeNumbers(40), repeated(float32(0.1), 9), wholeNumbers(impl.MaxLong)}
	for _, a := range lists {
		for _, b := range lists {
			for _, window := range []int64{0, 1, 2, 7, 40, impl.MaxLong} {
				expectWay(t, a, b, window)
				far, ok := impl.WarpFar(a, b, window)
				turned, okTurned := impl.WarpFar(b, a, window)
				expect(t, "a cost turned around", shown(turned, okTurned), shown(far, ok))
			}
		}
		far, ok := impl.WarpFar(a, a, 3)
		expect(t, "a series warped to itself", shown(far, ok), sureNumber(0))
	}
	// A number that comes several times costs nothing.
	for repeat := 1; repeat <= 3; repeat++ {
		var slow []float32
		for _, x := range heights() {
			slow = append(slow, repeated(x, repeat)...)
		}
		far, ok := impl.WarpFar(heights(), slow, impl.MaxLong)
		expect(t, "a slow series", shown(far, ok), sureNumber(0))
	}
}

func TestSeriesBelongToTheirNearestCenter(t *testing.T) {
	for _, list := range [][][]float32{shapesOf(wholeNumbers(impl.MaxLong), impl.MaxShapes, 9), shapesOf(wholeNumbers(40), 7, 3), shapesOf(shuffled(35, 89), impl.MaxShapes, 20), {rough(), wavy(), heights()[:12], heights()[2:]}, repeated(rough(), 5)} {
		for count := 1; count <= len(list); count++ {
			for _, rounds := range []int64{0, 1, 2, 7, 32} {
				centers, groups, ok := impl.CentersOf(list, int64(count), rounds)
				if !ok || len(centers) != count || len(groups) != len(list) {
					t.Fatalf("no centers of %s", shown(list, count, rounds))
				}
				for i, a := range list {
					nearest, least := 0, math.Inf(1)
					for g, center := range centers {
						if far := wayOf(a, center); far < least {
							nearest, least = g, far
						}
					}
					// Where two of them are nearly as far, rounding tells which one it is.
					if int(groups[i]) != nearest && wayOf(a, centers[groups[i]]) > least*1.000001 {
						t.Errorf("series %d of %s belongs to %d, and not to %d", i, shown(list), groups[i], nearest)
					}
					at, _, ok := impl.NearestShape(centers, a)
					expect(t, "the nearest center", shown(at, ok), shown(groups[i], true))
				}
				expectRest(t, list, centers, groups, rounds)
			}
		}
	}
}

// expectRest tells that behind many rounds the centers do not move any more:
// each one is the mean of its series.
func expectRest(t *testing.T, list, centers [][]float32, groups []int64, rounds int64) {
	t.Helper()
	if rounds < 32 {
		return
	}
	for g, center := range centers {
		count := 0
		sums := make([]float64, len(center))
		for i, a := range list {
			if groups[i] == int64(g) {
				count++
				for place, x := range a {
					sums[place] += float64(x)
				}
			}
		}
		for place, x := range center {
			if count > 0 && math.Abs(sums[place]/float64(count)-float64(x)) > 0.00001*(1+math.Abs(float64(x))) {
				t.Errorf("the center %d of %s is not the mean of its series", g, shown(list))
			}
		}
	}
}

// wayOf returns how far two series are apart, in 64-bit numbers.
func wayOf(a, b []float32) float64 {
	squares := 0.0
	for i := range a {
		squares += (float64(a[i]) - float64(b[i])) * (float64(a[i]) - float64(b[i]))
	}
	return math.Sqrt(squares)
}

func TestShapesAreNear(t *testing.T) {
	for _, a := range [][]float32{rough(), wavy(), heights(), placesOf(50), wholeNumbers(impl.MaxLong)} {
		norm, ok := impl.NormShape(a)
		mean, _ := impl.MeanOf(norm)
		spread, _ := impl.SpreadOf(norm)
		expectWithin(t, "the mean and the spread of a norm", []float32{mean, spread}, []float32{0, 1}, 0.00001)
		even, okEven := impl.EvenSeries(a)
		expect(t, "a norm and an even series", shown(norm, ok), shown(even, okEven))
		for _, b := range [][]float32{rough(), wavy(), heights(), placesOf(50), wholeNumbers(impl.MaxLong)} {
			both := min(len(a), len(b))
			far, ok := impl.FarOfShapes(a[:both], b[:both])
			if want := wayOf(a[:both], b[:both]); !ok || math.Abs(float64(far)-want) > 0.00001*want {
				t.Errorf("%s are %g apart, and not %g", shown(a[:both], b[:both]), far, want)
			}
			turned, ok := impl.FarOfShapes(b[:both], a[:both])
			expect(t, "far turned around", shown(turned, ok), sureNumber(far))
		}
	}
}

// TestProfilesFindParts hides one part twice in another series.
func TestProfilesFindParts(t *testing.T) {
	part := []float32{1, 9, 2, 8, 8, 3, 0, 5}
	for first := range 12 {
		a := wholeNumbers(60)
		second := first + 20 + first%5
		copy(a[first:], part)
		for i, x := range part {
			a[second+i] = 3*x + 100
		}
		at, other, far, ok := impl.MotifOf(a, int64(len(part)))
		if !ok || at != int64(first) || other != int64(second) || far > 0.001 {
			t.Errorf("the motif of %s: got %d, %d, %g, %t", shown(a), at, other, far, ok)
		}
		fars, others, _ := impl.ProfileOf(a, int64(len(part)))
		discord, most, ok := impl.DiscordOf(a, int64(len(part)))
		expect(t, "the discord", shown(most, ok), sureNumber(slices.Max(fars)))
		for place, x := range fars {
			if gap := others[place] - int64(place); max(gap, -gap) < int64(len(part)) || x < far || x > most || x == most && int64(place) < discord {
				t.Errorf("the profile of %s at %d: %g, %d", shown(a), place, x, others[place])
			}
		}
	}
	odd := withNumber(waves([]float32{1, 5, 2}, 40), 20, 40)
	at, _, ok := impl.DiscordOf(odd, 3)
	if !ok || at < 18 || at > 20 {
		t.Errorf("the discord of %s: got %d, %t", shown(odd), at, ok)
	}
}

// TestSignsAreApartAtLeast holds what signs tell against how far the series
// are apart.
func TestSignsAreApartAtLeast(t *testing.T) {
	cuts := []float32{-1.2, -0.7, -0.3, 0, 0.3, 0.7, 1.2}
	lists := shapesOf(wholeNumbers(impl.MaxLong), impl.MaxShapes, 24)
	for _, parts := range []int64{1, 2, 3, 4, 6, 8, 12, 24} {
		for _, a := range lists {
			for _, b := range lists {
				normA, _ := impl.NormShape(a)
				normB, _ := impl.NormShape(b)
				signsA, _ := impl.SignsOf(normA, parts, cuts)
				signsB, _ := impl.SignsOf(normB, parts, cuts)
				least, ok := impl.SignFar(signsA, signsB, cuts)
				far, okFar := impl.FarOfShapes(normA, normB)
				if !ok || !okFar || math.Sqrt(24/float64(parts))*float64(least) > float64(far)*1.00001 {
					t.Errorf("signs of %s are %g apart, and the series %g", shown(a, b), least, far)
				}
			}
		}
	}
}

// TestTreesJoinAll holds a tree against the widths of groups that are never
// nearer than it tells.
func TestTreesJoinAll(t *testing.T) {
	for _, list := range [][][]float32{shapesOf(wholeNumbers(impl.MaxLong), impl.MaxShapes, 9), shapesOf(shuffled(35, 89), 11, 20), {{0}, {4}, {5}, {9}, {1}}, repeated(rough(), 5)} {
		pairs, fars, ok := impl.TreeOfShapes(list)
		if !ok || len(fars) != len(list)-1 || len(pairs) != 2*len(fars) || !slices.IsSorted(fars) {
			t.Fatalf("a tree of %s: got %s, %t", shown(list), shown(pairs, fars), ok)
		}
		groups := placesAsInts(len(list))
		for step, far := range fars {
			i, k := pairs[2*step], pairs[2*step+1]
			if i >= k || !slices.Contains(groups, i) || !slices.Contains(groups, k) {
				t.Fatalf("a tree of %s joins %d and %d", shown(list), i, k)
			}
			least := math.Inf(1)
			for place, a := range list {
				for other, b := range list {
					if groups[place] == i && groups[other] == k {
						least = min(least, wayOf(a, b))
					}
					if groups[place] != groups[other] && wayOf(a, b) < float64(far)*0.999999 {
						t.Errorf("a tree of %s joins too late", shown(list))
					}
				}
			}
			if math.Abs(least-float64(far)) > 0.00001*least {
				t.Errorf("a tree of %s: %d and %d are %g apart, and not %g", shown(list), i, k, least, far)
			}
			for place, group := range groups {
				if group == k {
					groups[place] = i
				}
			}
		}
		expect(t, "one group of all", shown(groups), shown(make([]int64, len(list))))
	}
}

func TestDriftsAreTold(t *testing.T) {
	for _, a := range [][]float32{rough(), wavy(), heights(), wholeNumbers(impl.MaxLong)} {
		turned := make([]float32, len(a))
		for i, x := range a {
			turned[i] = -x
		}
		for _, mean := range []float32{0, 2.5, -7, 30000} {
			for _, slack := range []float32{0, 0.5, 3} {
				up, ok := impl.DriftUp(a, mean, slack)
				down, okDown := impl.DriftDown(turned, -mean, slack)
				if !ok || !okDown || slices.Min(up) < 0 || slices.Min(down) < 0 {
					t.Fatalf("drifts of %s: %s, %s", shown(a, mean, slack), shown(up), shown(down))
				}
				expectWithin(t, "a drift turned around", down, up, 0.0001*float64(slices.Max(up)))
				falls, _ := impl.DriftDown(a, mean, slack)
				for _, bar := range []float32{0, 1, 20, 100000, 1e9} {
					want := slices.IndexFunc(placesOf(len(a)), func(place float32) bool { return up[int(place)] > bar || falls[int(place)] > bar })
					at, ok := impl.DriftAt(a, mean, slack, bar)
					expect(t, "where a drift is told", shown(at, ok), shown(want, true))
				}
				levels, _ := impl.SimpleLevels(append([]float32{mean}, a[:min(len(a), impl.MaxLong-1)]...), 0.3)
				chart, ok := impl.SmoothChart(a[:len(levels)-1], 0.3, mean, slack)
				var want []int64
				for i, level := range levels[1:] {
					if level-mean > slack || mean-level > slack {
						want = append(want, int64(i))
					}
				}
				expect(t, "a chart of levels", shown(chart, ok), shown(want, true))
			}
		}
	}
}

// TestWalksEnd holds the mean of steps against the chances to have ended.
func TestWalksEnd(t *testing.T) {
	for _, chances := range [][2]float32{{1, 0}, {0.5, 0.5}, {0.5, 0.25}, {0.7, 0.1}, {0.9, 0.1}, {0.25, 0}} {
		for bar := int64(1); bar <= 4; bar++ {
			long, okLong := impl.RunLong(chances[0], chances[1], bar)
			mean, before := 0.0, float32(0)
			for steps := int64(0); steps <= 256; steps++ {
				chance, ok := impl.RunChance(chances[0], chances[1], bar, steps)
				if !ok || chance < before || chance > 1.0001 || steps < bar && chance != 0 {
					t.Fatalf("the chance of a walk with %s: got %g behind %g", shown(chances[0], chances[1], bar, steps), chance, before)
				}
				mean += 1 - float64(chance)
				before = chance
			}
			if !okLong || math.Abs(mean-float64(long)) > 0.001*mean {
				t.Errorf("a walk with %s is %g long, and not %g", shown(chances[0], chances[1], bar), long, mean)
			}
		}
	}
}

func TestSeriesAreLoadedAsStored(t *testing.T) {
	var list []impl.Saved
	for i, numbers := range append(wildLists(), wholeNumbers(50), repeated(fromBits(negZero), impl.MaxLong)) {
		s := savedOf("abcdefgh"[:1+i%8], int64(i*66667-1000000), numbers...)
		stored, ok := impl.StoreSaved(s)
		expect(t, "stored "+shownSaved(s), shown(ok), shown(impl.IsSeries(numbers)))
		if !ok {
			continue
		}
		back, ok := impl.LoadSaved(stored)
		if !ok || !impl.SameSaved([]impl.Saved{back}, []impl.Saved{s}) {
			t.Errorf("loaded %s, and not %s", shownSaved(back), shownSaved(s))
		}
		again, ok := impl.StoreSaved(back)
		expect(t, "stored once more", shown(again, ok), shown(stored, true))
		list = append(list, s)
	}
	for from := range list {
		some := list[from:min(from+impl.MaxSaved, len(list))]
		all, ok := impl.StoreAll(some)
		back, size, okBack := impl.RecoverAll(all)
		if !ok || !okBack || size != int64(len(all)) || !impl.SameSaved(back, some) {
			t.Errorf("recovered %s, and not %s", shownSaved(back...), shownSaved(some...))
		}
	}
}

func TestShapeExamples(t *testing.T) {
	far, ok := impl.WarpFar([]float32{1, 2}, []float32{1, 1, 2}, 1)
	expect(t, "1, 2 and 1, 1, 2", shown(far, ok), sureNumber(0))
	long, ok := impl.RunLong(1, 0, 3)
	expect(t, "a walk that always goes up", shown(long, ok), sureNumber(3))
	means, ok := impl.PartMeans([]float32{1, 3, 5, 7}, 2)
	expect(t, "parts of 1, 3, 5, 7", shown(means, ok), sure(2, 6))
}
