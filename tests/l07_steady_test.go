package tests

import (
	"math"
	"strings"
	"testing"

	"loop.example/g01375/impl"
)

// shapeResults tells what the functions of one or two series of chapter 7
// return, one per line.
func shapeResults(a, b []float32, n int64, by float32) string {
	var lines []string
	add := func(values ...any) { lines = append(lines, shown(values...)) }
	far, ok := impl.FarOfShapes(a, b)
	add(far, ok)
	far, ok = impl.WarpFar(a, b, n)
	add(far, ok)
	at, far, ok := impl.NearestShape([][]float32{a, b}, a)
	add(at, far, ok)
	at, far, ok = impl.NearestWarped([][]float32{b, a}, a, n, n)
	add(at, far, ok)
	at, other, far, ok := impl.MotifOf(a, n)
	add(at, other, far, ok)
	at, far, ok = impl.DiscordOf(a, n)
	add(at, far, ok)
	width, ok := impl.WidthOfCenters([][]float32{a, b}, []int64{n, n})
	add(width, ok)
	at, ok = impl.DriftAt(a, by, by, by)
	add(at, ok)
	for _, maker := range shapeMakers(b, n, by) {
		made, ints, ok := maker(a)
		add(made, ints, ok)
	}
	return strings.Join(lines, "\n")
}

// shapeMaker makes lists of numbers, and of integers, of a series.
type shapeMaker = func(a []float32) ([]float32, []int64, bool)

// shapeMakers are the functions that make lists of series; centers are told one
// by one.
func shapeMakers(b []float32, n int64, by float32) []shapeMaker {
	type numbers = []float32
	one := func(maker numberMaker) shapeMaker {
		return func(a numbers) (numbers, []int64, bool) {
			made, ok := maker(a)
			return made, nil, ok
		}
	}
	ints := func(maker func(a numbers) ([]int64, bool)) shapeMaker {
		return func(a numbers) (numbers, []int64, bool) {
			made, ok := maker(a)
			return nil, made, ok
		}
	}
	makers := []shapeMaker{
		one(impl.NormShape),
		one(func(a numbers) (numbers, bool) { return impl.WarpCosts(a, b, n) }),
		one(func(a numbers) (numbers, bool) { return impl.PartMeans(a, n) }),
		one(func(a numbers) (numbers, bool) { return impl.DriftUp(a, by, by) }),
		one(func(a numbers) (numbers, bool) { return impl.DriftDown(a, by, by) }),
		ints(func(a numbers) ([]int64, bool) { return impl.WarpWay(a, b, n) }),
		ints(func(a numbers) ([]int64, bool) { return impl.SignsOf(a, n, numbers{by}) }),
		ints(func(a numbers) ([]int64, bool) { return impl.SmoothChart(a, by, by, by) }),
		func(a numbers) (numbers, []int64, bool) { return impl.ProfileOf(a, n) },
		func(a numbers) (numbers, []int64, bool) {
			pairs, fars, ok := impl.TreeOfShapes([]numbers{a, b, a})
			return fars, pairs, ok
		},
	}
	for place := range 2 {
		for _, rounds := range []int64{0, 1} {
			makers = append(makers, func(a numbers) (numbers, []int64, bool) {
				centers, groups, ok := impl.CentersOf([]numbers{a, b, a}, n, rounds)
				if place >= len(centers) {
					return nil, groups, ok
				}
				return centers[place], groups, ok
			})
		}
	}
	return makers
}

func TestWrongSeriesAreNoShapes(t *testing.T) {
	for _, wrong := range wrongSeries() {
		for n := range int64(4) {
			expectFailures(t, "shapes of "+shown(wrong), shapeResults(wrong, wrong, n, 0.5))
			expectFailures(t, "shapes of "+shown(wrong), shapeResults(wrong, []float32{1, 2, 3}, n, 0))
		}
	}
}

func TestShapeCallsAreSteady(t *testing.T) {
	check := func(a, b []float32, n int64, by float32) {
		expectSteady(t, "shapes of "+shown(a, b, n, by), func() string { return shapeResults(a, b, n, by) })
	}
	for _, list := range wildLists() {
		for _, n := range append(wildInts(), 4, 5, 6, 7, 16, 17, 32, 33, 48, 49, math.MaxUint32+1) {
			check(list, list, n, 0.5)
			check(rough(), list, n, 0.5)
		}
		for _, by := range wildNumbers() {
			check(list, repeated(float32(0.3), len(list)), 2, by)
		}
	}
}

func TestListCallsAreSteady(t *testing.T) {
	lists := append(wrongShapes(), shapesOf(wholeNumbers(40), impl.MaxShapes, 5), [][]float32{{3e38}, {-3e38}, {1}}, repeated(tiny(), 3), [][]float32{scatter(7), scatter(7)}, [][]float32{scatter(7)[:3], scatter(7)[4:]})
	for _, list := range lists {
		x := []float32{1, 2, 3}
		if len(list) > 0 && len(list[0]) < 100 {
			x = list[0]
		}
		for _, n := range append(wildInts(), 5, 15, 16, 17, 32, 33) {
			for _, m := range []int64{-1, 0, 1, 3, 32, 97, math.MaxInt64, math.MinInt64} {
				expectSteady(t, "lists of "+shown(list, n, m), func() string {
					at, far, ok := impl.NearestShape(list, x)
					warped, wide, okWarped := impl.NearestWarped(list, x, n, m)
					centers, groups, okCenters := impl.CentersOf(list, n, m)
					pairs, fars, okTree := impl.TreeOfShapes(list)
					width, okWidth := impl.WidthOfCenters(list, repeated(n, len(list)))
					return shown(at, far, ok, warped, wide, okWarped, centers, groups, okCenters, pairs, fars, okTree, width, okWidth)
				})
			}
		}
	}
}

func TestSignAndWalkCallsAreSteady(t *testing.T) {
	for _, n := range wildInts() {
		for _, m := range append(wildInts(), 16, 17, 256, 257) {
			for _, cuts := range append(wrongCuts(), nil, []float32{1, 2}, manyCuts(impl.MaxSigns), scatter(2)) {
				expectSteady(t, "signs of "+shown(n, m, cuts), func() string {
					far, ok := impl.SignFar([]int64{n, 1}, []int64{m, 1}, cuts)
					signs, okSigns := impl.SignsOf(rough(), n, cuts)
					return shown(far, ok, signs, okSigns)
				})
			}
			for _, up := range wildNumbers() {
				for _, down := range wildNumbers() {
					expectSteady(t, "walks of "+shown(up, down, n, m), func() string {
						long, ok := impl.RunLong(up, down, n)
						chance, okChance := impl.RunChance(up, down, n, m)
						return shown(long, ok, chance, okChance)
					})
				}
			}
		}
	}
	for _, a := range wildNumbers() {
		for _, b := range wildNumbers() {
			for _, c := range wildNumbers() {
				expectSteady(t, "drifts of "+shown(a, b, c), func() string {
					at, ok := impl.DriftAt(rough(), a, b, c)
					chart, okChart := impl.SmoothChart(rough(), a, b, c)
					return shown(at, ok, chart, okChart)
				})
			}
		}
	}
}

func TestFileCallsAreSteady(t *testing.T) {
	all, _ := impl.StoreAll(validSaved())
	texts := []string{"", "SER1", "SER1\x01", "SER1\xff", all, all[1:], all + all, strings.Repeat("SER1", 100000), strings.Repeat("\xff", 100000), strings.Repeat("SER1\x01a", 1000)}
	for i, text := range texts {
		expectSteady(t, "readers of the text "+shown(i), func() string {
			s, ok := impl.LoadSaved(text)
			list, size, okAll := impl.RecoverAll(text)
			return shownSaved(s) + shownSaved(list...) + shown(ok, size, okAll)
		})
	}
	for _, list := range [][]impl.Saved{nil, validSaved(), wrongSaved(), repeated(impl.Saved{}, 1000), repeated(validSaved()[0], 1000)} {
		expectSteady(t, "files of a list", func() string {
			stored, ok := impl.StoreAll(list)
			return shown(stored, ok, impl.SameSaved(list, list))
		})
	}
}

func TestShapeArgumentsAreLeft(t *testing.T) {
	whole, wholeOther := append(zeroSigned(), 7), append(wavy()[:9:9], 3)
	wholeCuts := []float32{fromBits(negZero), 0, 1, 2, 7, 3}
	wholeSigns, wholeGroups := []int64{3, 0, 2, 1, 7, 8}, []int64{1, 0, 1, 7, 8}
	a, b, cuts, signs, groups := roomy(whole), roomy(wholeOther), roomy(wholeCuts), roomy(wholeSigns), roomy(wholeGroups)
	wholeList := [][]float32{a, b, a, {1}, {2}}
	list := roomy(wholeList)
	wholeSaved := append(validSaved()[:3:3], savedOf("no", 1, 2), savedOf("none", 3, 4))
	wholeSaved[0].Numbers = a
	saved := roomy(wholeSaved)
	arguments := func() string {
		return shown(whole, wholeOther, wholeCuts, wholeSigns, wholeGroups, wholeList) + shownSaved(wholeSaved...)
	}
	before := arguments()
	for _, n := range append(wildInts(), 4, 5, 6) {
		for _, by := range []float32{0, 0.5, 1} {
			shapeResults(a, b, n, by)
			impl.SignsOf(a, n, cuts)
			impl.NearestWarped(list, b, n, 2)
			impl.CentersOf(list, n, n)
		}
	}
	_, okFar := impl.SignFar(signs, signs, cuts)
	_, _, okNear := impl.NearestWarped(list, b, 2, 8)
	_, _, okNearest := impl.NearestShape(list, b)
	_, _, okCenters := impl.CentersOf(list, 2, 5)
	_, _, okTree := impl.TreeOfShapes(list)
	_, okWidth := impl.WidthOfCenters(list, groups)
	_, okAll := impl.StoreAll(saved)
	impl.ValidSaved(saved[0])
	impl.StoreSaved(saved[0])
	same := impl.SameSaved(saved, saved)
	expect(t, "the calls", shown(okFar, okNear, okNearest, okCenters, okTree, okWidth, okAll, same), "true true true true true true true true")
	expect(t, "arguments behind the calls", arguments(), before)
}

func TestShapeResultsAreNew(t *testing.T) {
	a, b := zeroSigned()[:8], wavy()[:8]
	before := shown(a, b)
	for _, n := range []int64{2, 3} {
		for i, maker := range shapeMakers(b, n, 0.5) {
			made, ints, ok := maker(a)
			want, wantInts := shown(made), shown(ints)
			if !ok {
				if n == 2 {
					t.Fatalf("maker %d fails", i)
				}
				continue
			}
			spoil(made, 77)
			expect(t, "integers behind changes of numbers "+shown(i), shown(ints), wantInts)
			spoil(ints, 78)
			expect(t, "arguments behind changes of a result "+shown(i), shown(a, b), before)
			made, ints, _ = maker(a)
			expect(t, "a result behind changes "+shown(i), shown(made, ints), want+" "+wantInts)
		}
	}
}

func TestCentersShareNothing(t *testing.T) {
	a, b := wavy(), rough()
	// A center with no series stays as it was, and the same memory may come several times.
	list := [][]float32{a, a, b, a, a[:12:12]}
	before := shown(list)
	for count := 1; count <= len(list); count++ {
		for rounds := range int64(4) {
			for spoiled := range count {
				centers, groups, ok := impl.CentersOf(list, int64(count), rounds)
				if !ok {
					t.Fatalf("no centers of %s", shown(list, count, rounds))
				}
				others := append(append([][]float32{}, centers[:spoiled]...), centers[spoiled+1:]...)
				want := shown(others, groups)
				spoil(centers[spoiled], 77)
				expect(t, "others behind changes of a center", shown(others, groups), want)
				expect(t, "series behind changes of a center", shown(list), before)
				want = shown(centers)
				spoil(groups, 78)
				expect(t, "centers behind changes of the groups", shown(centers), want)
			}
		}
	}
}

func TestSavedShareNothing(t *testing.T) {
	all, _ := impl.StoreAll(validSaved())
	for spoiled := range impl.MaxSaved {
		list, _, _ := impl.RecoverAll(all)
		want := append(validSaved()[:spoiled:spoiled], validSaved()[spoiled+1:]...)
		spoil(list[spoiled].Numbers, 77)
		others := append(list[:spoiled:spoiled], list[spoiled+1:]...)
		expect(t, "others behind changes of one", shownSaved(others...), shownSaved(want...))
	}
	list, _, _ := impl.RecoverAll(all)
	expect(t, "recovered behind changes", shownSaved(list...), shownSaved(validSaved()...))
	one, _ := impl.StoreSaved(validSaved()[3])
	s, _ := impl.LoadSaved(one)
	spoil(s.Numbers, 77)
	s, ok := impl.LoadSaved(one)
	expect(t, "loaded behind changes", shownSaved(s)+shown(ok), shownSaved(validSaved()[3])+"true")
}

func TestShapeWorkersAreJoined(t *testing.T) {
	list := shapesOf(wholeNumbers(impl.MaxLong), impl.MaxShapes, 10)
	expectJoined(t, func() { impl.NearestWarped(list, rough(), 5, impl.MaxWorkers) })
	expectJoined(t, func() { impl.NearestWarped(list, rough(), 0, impl.MaxWorkers) })
}
