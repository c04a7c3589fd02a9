package tests

import (
	"math"
	"testing"

	"loop.example/g01375/impl"
)

// noNearest stands for an index and a number that fail.
const noNearest = "0 00000000 false"

// wrongShapes are lists of series that no function of chapter 7 takes: none,
// too many, of different lengths, and those of which one is no series.
func wrongShapes() [][][]float32 {
	wrong := [][][]float32{nil, {}, repeated([]float32{1, 2, 3}, impl.MaxShapes+1), repeated([]float32{1, 2, 3}, 1000), {nil}, {nil, nil},
		{{1, 2, 3}, {1, 2}}, {{1, 2}, {1, 2, 3}}, {{1, 2, 3}, {1, 2, 3}, {1, 2, 3, 4}}, {{1, 2, 3}, nil}}
	for _, list := range wrongSeries() {
		wrong = append(wrong, [][]float32{list}, [][]float32{list, list})
		for _, place := range []int{0, 1, 7, impl.MaxShapes - 1} {
			lists := repeated([]float32{1, 2, 3}, impl.MaxShapes)
			lists[place] = list
			wrong = append(wrong, lists)
		}
	}
	return wrong
}

// shapesOf returns series that are parts of a longer one.
func shapesOf(a []float32, count, long int) [][]float32 {
	list := make([][]float32, count)
	for i := range list {
		from := i * (len(a) - long) / max(count-1, 1)
		list[i] = a[from : from+long]
	}
	return list
}

func TestNearestShape(t *testing.T) {
	minusZero := fromBits(negZero)
	type nearRow struct {
		list [][]float32
		x    []float32
		want string
	}
	rows := []nearRow{
		{[][]float32{{5, 5}, {1, 2}}, []float32{1, 3}, "1 3f800000 true"},
		{[][]float32{{1, 2}, {5, 5}}, []float32{1, 3}, "0 3f800000 true"},
		{[][]float32{rough(), wavy(), heights()[:12]}, placesOf(12), "0 41f7ac75 true"},
		{[][]float32{wavy(), rough(), heights()[2:]}, heights()[1:13], "1 42632402 true"},
		{[][]float32{wavy()}, rough(), "0 447b87f3 true"},
		{shapesOf(wholeNumbers(impl.MaxLong), impl.MaxShapes, 40), placesOf(40), "14 489e5bea true"},
		{shapesOf(wholeNumbers(impl.MaxLong), impl.MaxShapes, 7), wholeNumbers(40)[20:27], "13 46baa7eb true"},
		{shapesOf(wholeNumbers(impl.MaxLong), impl.MaxShapes+1, 7), wholeNumbers(40)[20:27], "0 00000000 false"},
		{[][]float32{placesOf(impl.MaxLong), wholeNumbers(impl.MaxLong)}, repeated(float32(40000), impl.MaxLong), "1 4888c55b true"},
		{[][]float32{placesOf(impl.MaxLong + 1)}, repeated(float32(40000), impl.MaxLong+1), "0 00000000 false"},
		// Several are nearest, equally far.
		{[][]float32{{3}, {7}}, []float32{5}, "0 40000000 true"},
		{[][]float32{{7}, {3}}, []float32{5}, "0 40000000 true"},
		{[][]float32{{9}, {3}, {7}, {3}}, []float32{5}, "1 40000000 true"},
		{[][]float32{{3, 4}, {4, 3}, {0, 5}, {5, 0}, {-5, 0}}, []float32{0, 0}, "0 40a00000 true"},
		{[][]float32{{1}, {0}, {minusZero}, {0}}, []float32{0}, "1 00000000 true"},
		{repeated(rough(), impl.MaxShapes), wavy(), "0 447b87f3 true"},
		{[][]float32{{1e-23}, {0}}, []float32{0}, "0 00000000 true"},
		// x of another length.
		{[][]float32{{1, 2}, {3, 4}}, []float32{1}, "0 00000000 false"},
		{[][]float32{{1, 2}, {3, 4}}, []float32{1, 2, 3}, "0 00000000 false"},
		{[][]float32{{1, 2}, {3, 4}}, nil, "0 00000000 false"},
		// One of them is too far, though another one is near.
		{[][]float32{{1}, {3e38}}, []float32{1}, "0 00000000 false"},
		{[][]float32{{3e38}, {1}}, []float32{1}, "0 00000000 false"},
		{[][]float32{{1.8e19}, {1}}, []float32{1}, "1 00000000 true"},
		{[][]float32{{2e19}, {1}}, []float32{1}, "0 00000000 false"},
	}
	for _, wrong := range wrongShapes() {
		rows = append(rows, nearRow{wrong, []float32{1, 2, 3}, noNearest}, nearRow{wrong, []float32{1}, noNearest})
		if len(wrong) > 0 {
			rows = append(rows, nearRow{wrong, wrong[0], noNearest})
		}
	}
	for _, wrong := range wrongSeries() {
		rows = append(rows, nearRow{[][]float32{{1, 2, 3}, {4, 5, 6}}, wrong, noNearest}, nearRow{[][]float32{{1}}, wrong, noNearest})
	}
	for _, row := range rows {
		at, far, ok := impl.NearestShape(row.list, row.x)
		expect(t, "nearest of "+shown(row.list, row.x), shown(at, far, ok), row.want)
	}
}

type nearWarpRow struct {
	list   [][]float32
	x      []float32
	window int64
	want   string
}

func nearWarpRows() []nearWarpRow {
	return []nearWarpRow{
		{[][]float32{{5, 5}, {1, 2}}, []float32{1, 1, 2}, 2, "1 00000000 true"},
		{[][]float32{rough(), wavy(), heights()[:12]}, placesOf(12), 3, "0 42b1ae14 true"},
		{[][]float32{rough(), wavy(), heights()[:12]}, placesOf(12), 0, "0 42b8ae15 true"},
		{[][]float32{rough(), wavy(), heights()[:12]}, heights(), 2, "2 427bcccd true"},
		{[][]float32{rough(), wavy(), heights()[:12]}, heights(), 1, "0 00000000 false"},
		{[][]float32{rough(), wavy(), heights()[:12]}, []float32{7}, 11, "0 42b2ae14 true"},
		{[][]float32{rough(), wavy(), heights()[:12]}, []float32{7}, 10, "0 00000000 false"},
		{[][]float32{rough(), wavy(), heights()[:12]}, []float32{7}, impl.MaxLong, "0 42b2ae14 true"},
		{shapesOf(wholeNumbers(impl.MaxLong), impl.MaxShapes, 7), wholeNumbers(40)[20:30], 4, "4 479e5b00 true"},
		{shapesOf(wholeNumbers(impl.MaxLong), impl.MaxShapes, 7), wholeNumbers(40)[33:35], 6, "12 47b3ef80 true"},
		{shapesOf(wholeNumbers(impl.MaxLong), impl.MaxShapes, 20), wholeNumbers(40)[13:36], 5, "3 47f79700 true"},
		{shapesOf(wholeNumbers(impl.MaxLong), impl.MaxShapes+1, 7), wholeNumbers(40)[20:30], 4, "0 00000000 false"},
		{[][]float32{placesOf(impl.MaxLong), wholeNumbers(impl.MaxLong)}, repeated(float32(70), impl.MaxLong), impl.MaxLong, "0 452fa000 true"},
		{[][]float32{placesOf(impl.MaxLong), wholeNumbers(impl.MaxLong)}, repeated(float32(70), impl.MaxLong+1), impl.MaxLong, "0 00000000 false"},
		{[][]float32{{7}}, []float32{4}, 0, "0 40400000 true"},
		// Windows, and ones that are too narrow for all.
		{[][]float32{{1, 2}, {3, 4}}, []float32{3, 4}, 0, "1 00000000 true"},
		{[][]float32{{1, 2}, {3, 4}}, []float32{3, 4}, -1, "0 00000000 false"},
		{[][]float32{{1, 2}, {3, 4}}, []float32{3, 4}, impl.MaxLong, "1 00000000 true"},
		{[][]float32{{1, 2}, {3, 4}}, []float32{3, 4}, impl.MaxLong + 1, "0 00000000 false"},
		{[][]float32{{1, 2}, {3, 4}}, []float32{3, 4, 4}, 0, "0 00000000 false"},
		{[][]float32{{1, 2}, {3, 4}}, []float32{3, 4, 4}, 1, "1 00000000 true"},
		{[][]float32{{1, 2, 3}, {3, 4, 4}}, []float32{3}, 1, "0 00000000 false"},
		// Several are nearest.
		{[][]float32{{9, 9}, {1, 2}, {1, 2}}, []float32{1, 1, 2}, 2, "1 00000000 true"},
		{[][]float32{{1, 3}, {1, 1}, {3, 1}}, []float32{1, 2}, 1, "0 3f800000 true"},
		{[][]float32{{9}, {7}, {3}}, []float32{5}, 0, "1 40000000 true"},
		{repeated(rough(), impl.MaxShapes), wavy(), 3, "0 4491b0a4 true"},
		// Those that fail are passed over: some, or all of them.
		{[][]float32{{3e38}, {1}}, []float32{-3e38}, 0, "1 7f61b1e6 true"},
		{[][]float32{{3e38}, {-3e38}, {-2e38}}, []float32{-1e38}, 1, "2 7e967699 true"},
		{[][]float32{{2e38, 2e38}, {1, 1}, {1e38, 1e38}}, []float32{0, 0}, 1, "1 40000000 true"},
		{[][]float32{{2e38, 2e38}, {3e38, 1}}, []float32{-1e38, -1e38}, 1, "0 00000000 false"},
		{[][]float32{{3e38, 0}, {2e38, 0}}, []float32{-3e38, 0}, 1, "0 00000000 false"},
		{[][]float32{{1}, {3e38}, {1}, {3e38}}, []float32{-3e38}, 0, "0 7f61b1e6 true"},
	}
}

func TestNearestWarped(t *testing.T) {
	rows := nearWarpRows()
	for _, wrong := range wrongShapes() {
		rows = append(rows, nearWarpRow{wrong, []float32{1, 2, 3}, 3, noNearest}, nearWarpRow{wrong, []float32{1}, impl.MaxLong, noNearest})
	}
	for _, wrong := range wrongSeries() {
		rows = append(rows, nearWarpRow{[][]float32{{1, 2, 3}, {4, 5, 6}}, wrong, impl.MaxLong, noNearest})
	}
	for _, window := range farInts() {
		rows = append(rows, nearWarpRow{[][]float32{{1, 2}, {3, 4}}, []float32{3, 4}, window, noNearest})
	}
	for _, row := range rows {
		for workers := range int64(impl.MaxWorkers) {
			at, far, ok := impl.NearestWarped(row.list, row.x, row.window, workers+1)
			expect(t, "nearest, warped, by "+shown(workers+1)+" of "+shown(row.list, row.x, row.window), shown(at, far, ok), row.want)
		}
		for _, workers := range []int64{0, -1, impl.MaxWorkers + 1, math.MaxInt64, math.MinInt64} {
			at, far, ok := impl.NearestWarped(row.list, row.x, row.window, workers)
			expect(t, "nearest, warped, by "+shown(workers), shown(at, far, ok), noNearest)
		}
	}
}
