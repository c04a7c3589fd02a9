package tests

import (
	"math"
	"slices"
	"testing"

	"loop.example/g01375/impl"
)

// termsOfRoots returns terms of a series whose parts fade by roots.
func termsOfRoots(roots ...float32) []float32 {
	row := []float32{1}
	for _, root := range roots {
		next := append(slices.Clone(row), 0)
		for i, x := range row {
			next[i+1] -= root * x
		}
		row = next
	}
	terms := make([]float32, len(roots))
	for i := range terms {
		terms[i] = -row[i+1]
	}
	return terms
}

func calmTerms() [][]float32 {
	return [][]float32{nil, {0.5}, {-0.75}, {0.5, 0.25}, {1, -0.5}, {-0.5, -0.75}, termsOfRoots(0.5, -0.5, 0.75), termsOfRoots(0.25, 0.5, -0.75, -0.25),
		termsOfRoots(0.5, 0.5, 0.5, -0.5, -0.5), termsOfRoots(0.5, 0.25, 0.75, -0.75, -0.25, -0.5)}
}

// TestCalmTermsGoOn holds what comes behind a series against a series without
// rests, and against the mean.
func TestCalmTermsGoOn(t *testing.T) {
	for _, terms := range calmTerms() {
		calm, ok := impl.IsCalm(terms)
		expect(t, "calm "+shown(terms), shown(calm, ok), "true true")
		for _, mean := range []float32{0, 3, -100} {
			list := append(rough(), 64)
			ahead, ok := impl.PastAhead(list, terms, mean, impl.MaxForth)
			if !ok || len(ahead) != impl.MaxForth {
				t.Fatalf("nothing ahead by %s", shown(terms))
			}
			rests, ok := impl.PastRests(append(list, ahead...), terms, mean)
			if !ok {
				t.Fatalf("no rests by %s", shown(terms))
			}
			expect(t, "rests of what is ahead by "+shown(terms), shown(rests[len(rests)-impl.MaxForth:]), shown(make([]float32, impl.MaxForth)))
			last := ahead
			for range 4 {
				last, _ = impl.PastAhead(last, terms, mean, impl.MaxForth)
			}
			expectWithin(t, "what is far ahead by "+shown(terms), last[16:], repeated(mean, 16), 0.001)
		}
	}
}

func TestOtherTermsDoNotLeadBack(t *testing.T) {
	for _, terms := range [][]float32{{1}, {-1}, {1.5}, termsOfRoots(1, 0.5), termsOfRoots(0.5, -1), termsOfRoots(1.5, 0.25, 0.5), termsOfRoots(0.5, 0.5, 0.5, 0.5, 0.5, -1.25)} {
		calm, ok := impl.IsCalm(terms)
		expect(t, "calm "+shown(terms), shown(calm, ok), "false true")
		list := make([]float32, impl.MaxOrder)
		list[5] = 1
		for range 4 {
			list, ok = impl.PastAhead(list, terms, 0, impl.MaxForth)
		}
		if !ok || lengthOf(list[16:]) < 0.5 {
			t.Errorf("what is far ahead by %s leads back: %s", shown(terms), shown(list))
		}
	}
}

// TestTwoTermsAreCalmInATriangle takes numbers with few bits, for which each
// step down is exact enough to tell the sides of the triangle.
func TestTwoTermsAreCalmInATriangle(t *testing.T) {
	for p := float32(-2.5); p <= 2.5; p += 0.125 {
		for q := float32(-1.5); q <= 1.5; q += 0.125 {
			want := q > -1 && p+q < 1 && q-p < 1
			calm, ok := impl.IsCalm([]float32{p, q})
			expect(t, "calm "+shown(p, q), shown(calm, ok), shown(want, true))
		}
	}
}

// TestOwnPastsFitLikes holds terms against the likes that they lead to.
func TestOwnPastsFitLikes(t *testing.T) {
	for _, list := range [][]float32{rough(), wavy(), heights(), wholeNumbers(impl.MaxLong), placesOf(20)} {
		for order := int64(0); order <= impl.MaxOrder; order++ {
			terms, spread, ok := impl.OwnPast(list, order)
			likes, okLikes := impl.SelfLikes(list, order)
			if !ok || !okLikes {
				t.Fatalf("no own past of order %d", order)
			}
			told := make([]float32, order)
			left := float32(1)
			for k := range told {
				for i, term := range terms {
					told[k] += term * likes[max(k-i, i-k)]
				}
				left -= terms[k] * likes[k+1]
			}
			expectWithin(t, "likes told by "+shown(terms), told, likes[1:], 0.00001)
			deviation, _ := impl.SpreadOf(list)
			expectNear(t, "spreads told by "+shown(terms), []float32{spread / (deviation * deviation)}, []float32{left})
			calm, ok := impl.IsCalm(terms)
			expect(t, "calm "+shown(terms), shown(calm, ok), "true true")
		}
	}
}

func TestOwnRowsFindTerms(t *testing.T) {
	for _, terms := range [][]float32{{0.75}, {-0.5}, {1, -0.5}, {0.5, -0.75}, {0.25, -0.5, 0.5}} {
		list := []float32{40, -3, 5}[:len(terms)]
		for len(list) < 24 {
			next := float32(2)
			for i, term := range terms {
				next += term * list[len(list)-1-i]
			}
			list = append(list, next)
		}
		found, spread, ok := impl.OwnRows(list, int64(len(terms)))
		if !ok || spread > 0.0001 {
			t.Errorf("own rows of %s: got %g, %t", shown(terms), spread, ok)
		}
		expectWithin(t, "own rows", found, append([]float32{2}, terms...), 0.001)
	}
}

func TestBestOrdersAreNotBeaten(t *testing.T) {
	for _, list := range [][]float32{rough(), wavy(), heights(), wholeNumbers(30), placesOf(20), {1, 2, 3, 3, 2, 1, 0, 0, 1, 2, 3, 3, 2, 1, 0, 0}} {
		for most := int64(0); most <= impl.MaxOrder; most++ {
			for kind := int64(0); kind <= 1; kind++ {
				best, cost, ok := impl.BestOrder(list, most, kind)
				if !ok || best < 0 || best > most {
					t.Fatalf("best order: got %d, %t", best, ok)
				}
				by := []float32{2, impl.LogNumber(float32(len(list)))}[kind]
				for order := range most + 1 {
					_, spread, _ := impl.OwnPast(list, order)
					other := float32(float32(len(list))*impl.LogNumber(spread)) + float32(by*float32(order))
					if other < cost || order < best && other == cost || order == best && other != cost {
						t.Errorf("order %d costs %g, and the best one, %d, %g", order, other, best, cost)
					}
				}
			}
		}
	}
}

// TestSpreadsAheadAreThoseOfAShock holds spreads against the way that one rest
// goes on, and, far ahead, against the mean of the powers.
func TestSpreadsAheadAreThoseOfAShock(t *testing.T) {
	for _, terms := range calmTerms() {
		spreads, ok := impl.PastSpreads(terms, 2, impl.MaxForth)
		list := make([]float32, impl.MaxOrder)
		list[5] = 1
		shock, okShock := impl.PastAhead(list, terms, 0, impl.MaxForth-1)
		if !ok || !okShock {
			t.Fatalf("no spreads by %s", shown(terms))
		}
		want := []float32{2}
		for k, w := range shock {
			want = append(want, want[k]+2*w*w)
		}
		expectWithin(t, "spreads by "+shown(terms), spreads, want, 0.0001)
		var powers float64
		for k := range 256 {
			power, ok := impl.PastPower(terms, 2, float32(k)/256)
			if !ok {
				t.Fatalf("no power of %s", shown(terms))
			}
			powers += float64(power)
		}
		if far := float64(spreads[len(spreads)-1]); math.Abs(powers/256-far) > 0.001*far {
			t.Errorf("the powers of %s have the mean %g, and not %g", shown(terms), powers/256, far)
		}
	}
}

// TestMovingPartsFitProducts holds terms of rests, behind many rounds, against
// the products of numbers that they make, for likes from -0.5 to 0.5.
func TestMovingPartsFitProducts(t *testing.T) {
	for _, list := range [][]float32{{1, 2, 4, 3, 1, 2, 2, 1, 3, 2}, rough(), heights(), wholeNumbers(impl.MaxLong)} {
		terms, spread, ok := impl.MovingParts(list, 1, 32)
		likes, okLikes := impl.SelfLikes(list, 1)
		deviation, _ := impl.SpreadOf(list)
		if !ok || !okLikes {
			t.Fatalf("no moving parts of %s", shown(list))
		}
		variance := deviation * deviation
		whole := spread * (1 + terms[0]*terms[0])
		expectNear(t, "products of "+shown(list), []float32{whole / variance, spread * terms[0] / variance}, []float32{1, likes[1]})
		rests, spread, ok := impl.MovingParts(list, 1, 0)
		expectNear(t, "one round of "+shown(list, ok), []float32{rests[0], spread / variance}, []float32{likes[1], 1 - likes[1]*likes[1]})
	}
}

func TestDrawnRestsAreFound(t *testing.T) {
	for _, terms := range calmTerms() {
		drawn, seed, ok := impl.DrawnSeries(terms, 5, 3, 77, impl.MaxLong)
		plain, plainSeed, okPlain := impl.DrawnSeries(nil, 0, 3, 77, impl.MaxLong)
		rests, okRests := impl.PastRests(drawn, terms, 5)
		if !ok || !okPlain || !okRests {
			t.Fatalf("nothing drawn by %s", shown(terms))
		}
		expectWithin(t, "rests of what is drawn by "+shown(terms), rests, plain[len(terms):], 0.0001)
		expect(t, "the seed", shown(seed), shown(plainSeed))
		half, seed, _ := impl.DrawnSeries(nil, 0, 3, 77, impl.MaxLong/2)
		later, seed, _ := impl.DrawnSeries(nil, 0, 3, seed, impl.MaxLong/2)
		expect(t, "what is drawn in two parts", shown(append(half, later...), seed), shown(plain, plainSeed))
		still, _, ok := impl.DrawnSeries(terms, 5, 0, 77, impl.MaxLong)
		expect(t, "what is drawn without rests", shown(still, ok), shown(repeated(float32(5), impl.MaxLong), true))
	}
	for seed := int64(0); seed < 100; seed++ {
		drawn, _, _ := impl.DrawnSeries(nil, 0, 1, seed*40000000, impl.MaxLong)
		if slices.Min(drawn) < -2 || slices.Max(drawn) >= 2 {
			t.Errorf("drawn by %d: %s", seed, shown(drawn))
		}
	}
}

// TestLevelsGoTowardsWhatIsSeen also holds levels against their old spreads.
func TestLevelsGoTowardsWhatIsSeen(t *testing.T) {
	for _, mean := range []float32{0, 2, -7.7, 1000} {
		for _, x := range []float32{0, 2.5, -300, 0.1} {
			for _, spread := range []float32{0, 0.01, 1, 1e10} {
				for _, drift := range []float32{0, 0.3, 5} {
					l := levelOf(mean, spread, 0.7, drift)
					next, _, ok := impl.LevelStep(l, x, true)
					// No further than what is seen, but for the last bits.
					slack := 1e-6 * float32(math.Abs(float64(mean))+math.Abs(float64(x)))
					if !ok || next.Mean < min(mean, x)-slack || next.Mean > max(mean, x)+slack || next.Spread < 0 || next.Spread > spread+drift {
						t.Errorf("%s goes towards %g: %s", shown(l), x, shown(next))
					}
					if spread+drift > 0 && mean != x && next.Mean == mean && spread > 0.5 {
						t.Errorf("%s stays at %g", shown(l), x)
					}
					blind, unlikely, ok := impl.LevelStep(l, x, false)
					expect(t, "what is not seen", shown(blind, unlikely, ok), shown(levelOf(mean, spread+drift, 0.7, drift), float32(0), true))
				}
			}
		}
	}
}

func TestLevelRunsAreSteps(t *testing.T) {
	for _, list := range [][]float32{{4}, rough(), wavy(), heights(), wholeNumbers(impl.MaxLong)} {
		for _, text := range []string{"k", "-", "kk-", "-k---k"} {
			seen := slices.Repeat(marks(text), len(list))[:len(list)]
			l, trend := slowLevel(), slowTrend()
			var means, spreads, expected []float32
			var sum float32
			for i, x := range list {
				var unlikely, was float32
				l, unlikely, _ = impl.LevelStep(l, x, seen[i])
				trend, was, _ = impl.TrendStep(trend, x, seen[i])
				means, spreads, expected, sum = append(means, l.Mean), append(spreads, l.Spread), append(expected, was), sum+unlikely
			}
			gotMeans, gotSpreads, gotSum, ok := impl.LevelRun(slowLevel(), list, seen)
			expect(t, "a level run", shown(gotMeans, gotSpreads, gotSum, ok), shown(means, spreads, sum, true))
			last, gotExpected, ok := impl.TrendRun(slowTrend(), list, seen)
			expect(t, "a trend run", shown(last, gotExpected, ok), shown(trend, expected, true))
			back, wide, ok := impl.LevelBack(slowLevel(), list, seen)
			at := len(list) - 1
			expect(t, "the last ones", shown(back[at], wide[at], ok), shown(means[at], spreads[at], true))
			for i, x := range wide {
				if x > spreads[i]*1.000001 {
					t.Errorf("the spread %g is told back as %g", spreads[i], x)
				}
			}
		}
	}
}

// TestLevelsToldBackLieBetween tells that a level without a drift is told back
// as its last one, nearly, and all others between their neighbours.
func TestLevelsToldBackLieBetween(t *testing.T) {
	seen := repeated(true, 12)
	still := levelOf(2, 1.5, 0.7, 0)
	means, spreads, _, _ := impl.LevelRun(still, rough(), seen)
	back, wide, _ := impl.LevelBack(still, rough(), seen)
	expectWithin(t, "a level without a drift", back, repeated(means[11], 12), 0.0001)
	expectWithin(t, "its spreads", wide, repeated(spreads[11], 12), 0.0001)
	means, _, _, _ = impl.LevelRun(slowLevel(), rough(), seen)
	back, _, _ = impl.LevelBack(slowLevel(), rough(), seen)
	for i := range 11 {
		if back[i] < min(means[i], back[i+1])-0.0001 || back[i] > max(means[i], back[i+1])+0.0001 {
			t.Errorf("place %d is told back as %g, not between %g and %g", i, back[i], means[i], back[i+1])
		}
	}
}

func TestTrendsExpectLines(t *testing.T) {
	for _, slope := range []float32{2, -0.75, 0} {
		line := going(7, slope, []float32{0}, 1, impl.MaxLong)
		trend := trendOf(7, slope, 2, 0.25, 0.75, 1.5, 0.1, 0.2)
		for _, seen := range []bool{false, true} {
			last, expected, ok := impl.TrendRun(trend, line, repeated(seen, len(line)))
			expect(t, "what is expected of a line", shown(expected, ok), shown(line, true))
			expect(t, "the last trend", shown(last.Level, last.Slope), shown(line[len(line)-1], slope))
			ahead, ok := impl.TrendAhead(last, impl.MaxForth)
			expect(t, "what is ahead of a line", shown(ahead, ok), shown(going(7, slope, []float32{0}, impl.MaxLong+1, impl.MaxForth), true))
		}
		// A trend that starts wrong comes to the line.
		last, _, ok := impl.TrendRun(trendOf(0, 1, 100, 0, 100, 1, 0.1, 0.1), line, repeated(true, len(line)))
		if !ok || math.Abs(float64(last.Level-line[len(line)-1])) > 0.01 || math.Abs(float64(last.Slope-slope)) > 0.01 {
			t.Errorf("a trend comes to %s, and not to the line", shown(last))
		}
	}
}

// wideWeight does not use the program, which is under test.
func wideWeight(r impl.Regimes, k int, x float32) float64 {
	away, spread := float64(x)-float64(r.Means[k]), float64(r.Spreads[k])
	return math.Exp(-away*away/(2*spread)) / math.Sqrt(spread)
}

func promiseRegimes() []impl.Regimes {
	return []impl.Regimes{oneRegime(), twoRegimes(), threeRegimes(), evenRegimes(3),
		regimesOf([]float32{0, 1, 2}, []float32{1, 2, 3}, []float32{1, 0, 0}, []float32{0.5, 0.5, 0, 0, 0.25, 0.75, 0.125, 0, 0.875})}
}

func TestChancesOfStatesMakeOne(t *testing.T) {
	list := []float32{0.5, 1, 4, -2, 3.3, 4.4, 2, 2, 0}
	for _, r := range promiseRegimes() {
		n := len(r.Means)
		shares, sum, ok := impl.RegimeShares(r, list)
		if !ok || len(shares) != n*len(list) {
			t.Fatalf("no shares of %s", shown(r))
		}
		var logs float64
		from := make([]float64, n)
		for k := range from {
			from[k] = float64(r.Starts[k])
		}
		for place, x := range list {
			var whole float64
			for k := range from {
				from[k] *= wideWeight(r, k, x)
				whole += from[k]
			}
			logs += math.Log(whole)
			next, want, all := make([]float64, n), make([]float32, n), 0.0
			for k := range from {
				want[k] = float32(from[k] / whole)
				all += float64(shares[place*n+k])
				for to := range next {
					next[to] += from[k] / whole * float64(r.Steps[k*n+to])
				}
			}
			expectWithin(t, "shares of "+shown(r), shares[place*n:place*n+n], want, 0.0001)
			if math.Abs(all-1) > 0.000001 {
				t.Errorf("the shares of %g make %g", x, all)
			}
			from = next
		}
		if math.Abs(logs-float64(sum)) > 0.001 {
			t.Errorf("the sum of %s is %g, and not %g", shown(r), sum, logs)
		}
	}
}

// chanceOfWay returns how likely a way is, with the numbers that show.
func chanceOfWay(r impl.Regimes, list []float32, way []int64) float64 {
	chance := float64(r.Starts[way[0]])
	for place, x := range list {
		if place > 0 {
			chance *= float64(r.Steps[int(way[place-1])*len(r.Means)+int(way[place])])
		}
		chance *= wideWeight(r, int(way[place]), x)
	}
	return chance
}

// bestChance goes through all ways.
func bestChance(r impl.Regimes, list []float32, way []int64) float64 {
	if len(way) == len(list) {
		return chanceOfWay(r, list, way)
	}
	var best float64
	for state := range r.Means {
		best = max(best, bestChance(r, list, append(way, int64(state))))
	}
	return best
}

func TestNoWayIsLikelier(t *testing.T) {
	for _, r := range promiseRegimes() {
		for _, list := range [][]float32{{0.5}, {1, 3}, {0.5, 1, 4, -2, 3.3, 4.4}, {2, 2, 2, 2, 2, 2}, {5, 0, 7, 7, 0, 1}} {
			way, ok := impl.RegimeWay(r, list)
			if !ok || len(way) != len(list) {
				t.Fatalf("no way of %s", shown(r))
			}
			chance, best := chanceOfWay(r, list, way), bestChance(r, list, nil)
			if chance < best*0.9999 {
				t.Errorf("the way %s of %s has the chance %g, and another one %g", shown(way), shown(r, list), chance, best)
			}
		}
	}
}

func TestShocksFade(t *testing.T) {
	calm := make([]float32, impl.MaxLong)
	squares, _, ok := impl.ShockRun(append([]float32{10}, calm[1:]...), 0.5, 0.25, 0.5)
	if !ok || squares[0] != 2 || squares[1] != 26.5 {
		t.Fatalf("a shock: got %s, %t", shown(squares), ok)
	}
	for i := 2; i < len(squares); i++ {
		want := 1 + (squares[i-1]-1)*0.5
		if math.Abs(float64(squares[i]-want)) > 0.0001 {
			t.Errorf("square %d behind a shock is %g, and not %g", i, squares[i], want)
		}
	}
}

func TestModelExamples(t *testing.T) {
	for _, x := range []float32{4, -6, 100} {
		next, _, ok := impl.LevelStep(levelOf(2, 1, 1, 0), x, true)
		expect(t, "half the way to a number", shown(next.Mean, ok), shown((2+x)/2, true))
	}
	calm, ok := impl.IsCalm([]float32{0.5})
	expect(t, "the terms 1/2", shown(calm, ok), "true true")
	calm, ok = impl.IsCalm([]float32{2})
	expect(t, "the term 2", shown(calm, ok), "false true")
	trend := trendOf(1, 2, 1, 0, 0, 1, 0, 0)
	_, expected, ok := impl.TrendRun(trend, []float32{9, 9}, []bool{false, false})
	expect(t, "a trend of 1 and 2", shown(expected, ok), shown([]float32{3, 5}, true))
	ahead, ok := impl.TrendAhead(trend, 2)
	expect(t, "ahead of a trend of 1 and 2", shown(ahead, ok), shown([]float32{3, 5}, true))
}
