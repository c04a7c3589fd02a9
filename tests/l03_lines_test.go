package tests

import (
	"testing"

	"loop.example/g01375/impl"
)

// The bits in the tests of chapter 3 were computed outside of Go, each
// operation rounded on its own.

func rough() []float32 {
	return []float32{0.5, 7.25, -3.3, 12, 0.01, -8.4, 2.2, 19, -0.7, 5.5, 1.1, -6}
}

func placesOf(count int) []float32 {
	list := make([]float32, count)
	for i := range list {
		list[i] = float32(i)
	}
	return list
}

const noLine = "00000000 00000000 false"

func TestFitLimits(t *testing.T) {
	expect(t, "limits", shown(impl.MaxColumns, impl.MaxLags, impl.MaxHarmonics), "6 16 4")
}

func TestLineFit(t *testing.T) {
	minusZero := fromBits(negZero)
	rows := []struct {
		list []float32
		want string
	}{
		{[]float32{1, 3, 5}, "3f800000 40000000 true"}, {[]float32{1, 3, 5, 7}, "3f800000 40000000 true"},
		{[]float32{5, 5}, "40a00000 00000000 true"}, {[]float32{2, -1}, "40000000 c0400000 true"},
		{[]float32{minusZero, minusZero}, "00000000 00000000 true"}, {[]float32{0, 0, 0}, "00000000 00000000 true"},
		{wavy(), "4301898d c0e73e15 true"}, {rough(), "4066d187 be5b0cd1 true"}, {steep(), "5f12f8ee de172621 true"}, {tiny(), "00333332 80000000 true"},
		{repeated(float32(0.3), 6), "3e999999 00000000 true"}, {repeated(float32(0.1), impl.MaxLong), "3dcccccd 00000000 true"},
		{wholeNumbers(impl.MaxLong), "47441505 c1b37bf7 true"}, {[]float32{3e38, -3e37, 1e37}, "7f334d54 feda2bf8 true"},
		{[]float32{7}, noLine}, {[]float32{0}, noLine},
		// The mean, or the sum of products, or the slope alone is not finite.
		{[]float32{3e38, 3e38}, noLine}, {[]float32{-3e38, 1, 2e38}, noLine}, {[]float32{-1.5e38, 2e38}, noLine}, {[]float32{-2e38, 1.5e38}, noLine},
	}
	for _, row := range rows {
		base, slope, ok := impl.LineFit(row.list)
		expect(t, "line of "+shown(row.list), shown(base, slope, ok), row.want)
	}
}

func TestWeightFit(t *testing.T) {
	minusZero := fromBits(negZero)
	rows := []struct {
		x, y, weights []float32
		want          string
	}{
		{[]float32{0, 1, 2}, []float32{1, 3, 9}, []float32{1, 1, 0}, "3f800000 40000000 true"},
		{[]float32{0, 1, 2}, []float32{1, 3, 9}, []float32{1, 1, minusZero}, "3f800000 40000000 true"},
		{[]float32{5, 3}, []float32{1, 2}, []float32{0.5, 2}, "40600000 bf000000 true"},
		{[]float32{5, 3, 5}, []float32{1, 2, 3}, []float32{2, 4, 2}, "40000000 00000000 true"},
		{[]float32{1, 2}, []float32{minusZero, minusZero}, []float32{1, 1}, "00000000 00000000 true"},
		{rough(), wavy(), placesOf(12), "429b367d bfe1ecb8 true"},
		{wavy(), rough(), repeated(float32(0.7), 12), "40291976 bb1adc46 true"},
		{placesOf(6), steep(), []float32{0.1, 0.2, 0.3, 0.4, 0.5, 0.6}, "5f2d462b de36b603 true"},
		{placesOf(5), tiny(), []float32{1, 0.1, 7, 0.3, 0}, "800a2c57 00091c3d true"},
		{wholeNumbers(impl.MaxLong), placesOf(impl.MaxLong), placesOf(impl.MaxLong), "42786fc0 3805f45f true"},
		{[]float32{0, 2}, []float32{1, 7}, []float32{0.5, 0.5}, "3f800000 40400000 true"},
		{[]float32{0.4, 0, 2.7}, []float32{0, 1.3, 4.9}, []float32{0.4, 0.3, 0.3}, "3e83acf0 3fd3819c true"},
		// The mean of one place need not be this place.
		{[]float32{7}, []float32{2}, []float32{0.7}, "40000000 00000000 true"},
		// Sums that are not returned need not be finite.
		{[]float32{0, 0.5}, []float32{0, 0.5}, []float32{3e38, 3e38}, "00000000 3f800000 true"},
		{[]float32{-1e25, 1e25}, []float32{-1, 1}, []float32{1, 1}, "00000000 00000000 true"},
	}
	for _, row := range rows {
		base, slope, ok := impl.WeightFit(row.x, row.y, row.weights)
		expect(t, "line of "+shown(row.x, row.y, row.weights), shown(base, slope, ok), row.want)
	}
}

func TestWrongWeightFit(t *testing.T) {
	x, y, minusZero := []float32{0, 1, 2}, []float32{1, 3, 9}, fromBits(negZero)
	rows := [][3][]float32{
		{x, y, {0, 0, 0}}, {x, y, {minusZero, minusZero, minusZero}}, {x, y, {1, 1, -fromBits(1)}}, {x, y, {-1, -1, -1}}, {x, y, {-1, 5, 5}},
		// Only one place has a weight, or all places are the same.
		{x, y, {0, 3, 0}}, {{4, 4, 4}, y, {1, 1, 1}}, {{0.1, 0.1, 0.1}, y, {0.1, 0.2, 0.3}}, {{0, minusZero, 0}, y, {1, 2, 4}},
		{{1}, {2}, {1}}, {{1}, {2}, {0}},
		{x[:2], y, {1, 1, 1}}, {x, y[:2], {1, 1, 1}}, {x, y, {1, 1}}, {x, y, {1, 1, 1, 1}},
		// A mean, the slope, or the base alone is not finite.
		{{3e38, 3e38, 0}, y, {1, 1, 1}}, {x, {3e38, 3e38, 0}, {1, 1, 1}}, {{0, 1e-15, 0}, {0, 1e30, 0}, {1, 1, 1}}, {{1e20, 1.0001e20}, {3e38, 0}, {1, 1}},
		{{1000, 1001}, {0, 3e36}, {1, 1}},
	}
	for _, row := range rows {
		base, slope, ok := impl.WeightFit(row[0], row[1], row[2])
		expect(t, "line of "+shown(row[0], row[1], row[2]), shown(base, slope, ok), noLine)
	}
	for _, wrong := range wrongSeries() {
		for i := range 3 {
			right := repeated(placesOf(len(wrong)), 3)
			right[i] = wrong
			base, slope, ok := impl.WeightFit(right[0], right[1], right[2])
			expect(t, "line of "+shown(right[0], right[1], right[2]), shown(base, slope, ok), noLine)
		}
	}
}

func TestMiddleSlope(t *testing.T) {
	minusZero := fromBits(negZero)
	rows := []struct {
		list []float32
		want string
	}{
		{[]float32{0, 1, 9}, "40900000 true"}, {[]float32{3, 1}, "c0000000 true"}, {[]float32{2, 2, 2}, "00000000 true"},
		// Of an even number of slopes, the lesser one in the middle.
		{[]float32{0, 1, 3, 7}, "40000000 true"}, {[]float32{7, 3, 1, 0}, "c0155555 true"},
		{wavy(), "3e6e147b true"}, {rough(), "be600000 true"}, {steep(), "de0186a9 true"}, {tiny(), "80000001 true"},
		{wholeNumbers(impl.MaxLong), "c1649249 true"}, {repeated(float32(0.1), impl.MaxLong), "00000000 true"},
		{[]float32{0, minusZero}, "80000000 true"}, {[]float32{minusZero, 0}, "00000000 true"},
		// Equal slopes keep the order of their pairs.
		{[]float32{minusZero, 0, minusZero}, "00000000 true"}, {[]float32{0, minusZero, minusZero}, "80000000 true"},
		{[]float32{0, 0, minusZero, 0}, "00000000 true"}, {[]float32{0, 0, 0, minusZero}, "80000000 true"},
		// Only the slope in the middle must be finite.
		{[]float32{-3e38, 3e38, 1}, "7ee1b1e6 true"}, {[]float32{3e38, -3e38, 0}, "fee1b1e6 true"},
		{[]float32{-3e38, 3e38}, noNumber}, {[]float32{3e38, -3e38}, noNumber}, {[]float32{-3e38, 3e38, 3e38, 3e38, -3e38, -3e38}, "00000000 true"},
		{[]float32{5}, noNumber}, {[]float32{0}, noNumber},
	}
	for _, row := range rows {
		slope, ok := impl.MiddleSlope(row.list)
		expect(t, "slope in the middle of "+shown(row.list), shown(slope, ok), row.want)
	}
}
