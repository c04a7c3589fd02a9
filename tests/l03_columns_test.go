package tests

import (
	"math"
	"testing"

	"loop.example/g01375/impl"
)

type columnRow struct {
	columns [][]float32
	y       []float32
	want    string
}

// curves returns columns of 1, the places, and the powers of the places.
func curves(count, long int) [][]float32 {
	columns := make([][]float32, count)
	for i := range columns {
		columns[i] = make([]float32, long)
		for place := range columns[i] {
			columns[i][place] = float32(math.Pow(float64(place)/8, float64(i)))
		}
	}
	return columns
}

// corners returns columns that are 1 at a place of their own.
func corners(count, long int) [][]float32 {
	columns := make([][]float32, count)
	for i := range columns {
		columns[i] = make([]float32, long)
		columns[i][i] = 1
	}
	return columns
}

func TestColumnFit(t *testing.T) {
	rows := []columnRow{
		{[][]float32{{1, 1}, {0, 2}}, []float32{3, 7}, "[40400000 40000000] true"},
		{[][]float32{{1, 1, 1}}, []float32{1, 2, 6}, "[40400000] true"}, {[][]float32{{4}}, []float32{-2}, "[bf000000] true"},
		{[][]float32{{2}}, []float32{fromBits(negZero)}, "[00000000] true"},
		{corners(3, 3), []float32{5, 6, 7}, sure(5, 6, 7)}, {corners(impl.MaxColumns, impl.MaxColumns), placesOf(impl.MaxColumns), sure(placesOf(impl.MaxColumns)...)},
		{curves(2, 12), wavy(), "[4301898d c2673e19] true"}, {curves(3, 12), rough(), "[3f46f320 413dea83 c11e08d1] true"},
		{curves(4, 12), wavy(), "[c2cc0655 44e17679 c5348ed6 4496c4c9] true"}, {curves(3, 6), steep(), "[5ee430c1 5eb874d0 e01dcf78] true"},
		{curves(2, 5), tiny(), "[00333334 80000006] true"}, {curves(4, impl.MaxLong), wholeNumbers(impl.MaxLong), "[472a48d3 4610e28b c5111187 430e34de] true"},
		{[][]float32{rough(), wavy()}, placesOf(12), "[3e378b60 3b9bb7f7] true"},
		{[][]float32{wavy(), rough()}, placesOf(12), "[3b9bb7f7 3e378b60] true"},
		{append(curves(4, 12), rough(), wavy()), wholeNumbers(12), "[c690a5c2 48bead48 c8fd6225 48480595 44118b9e c22faca7] true"},
		// Rows change places, and pivots are less than 0.
		{[][]float32{{1, 0}, {-3, 0.1}}, []float32{1, 2}, "[4273fba8 419ffd1b] true"},
		{[][]float32{{1, 0, 0.1}, {3, 1, 0}, {-9, 2, 0.3}}, []float32{1, 2, 3}, "[41c155c0 bff1c802 3ff8e400] true"},
		{[][]float32{{0.1, 0.2, 0.3}, {-3, 1, 0.7}, {2, 2.1, 5}}, []float32{1, 2, 3}, "[411fffe0 34d49c45 3606ad23] true"},
		// The first one of several with the greatest absolute value.
		{[][]float32{{1, 0.1, 0}, {1, 0.1, 0.3}}, []float32{1, 2, 3.3}, "[c11cfd73 412ffffc] true"},
		{[][]float32{{1, 0.1, 0, 0}, {-1, -0.1, 0.7, 0}, {1, 0.1, 0.3, 3}}, []float32{1, 2, 3.3, 0.9}, "[40af29a5 4092be2c 3e999999] true"},
		{[][]float32{{1, 0.1, 0, 0}, {7, 0.1, 0.7, 0}, {-7, -0.1, 0.3, 3}}, []float32{1, 2, 3.3, 0.9}, "[c0ae02e1 3fbe719c 3f087e08] true"},
		// Nearly the same ones, and the least pivot.
		{[][]float32{{1, 1, 1}, {1, 1, 1.01}}, []float32{1, 2, 3}, "[c31453cf 4315d3f5] true"},
		{[][]float32{{1, 1, 1}, {1, 1, 1.002}}, []float32{1, 2, 3}, "[c42e487a 442eaaab] true"},
		{[][]float32{{fromBits(0x3a83126f)}}, []float32{5}, "[459c4000] true"},
		{[][]float32{{fromBits(0x3a83126f), 0}, {0, 1}}, []float32{5, 0.1}, "[459c4000 3dcccccd] true"},
	}
	for _, row := range rows {
		terms, ok := impl.ColumnFit(row.columns, row.y)
		expect(t, "fit of "+shown(row.columns, row.y), shown(terms, ok), row.want)
	}
}

func TestWrongColumnFit(t *testing.T) {
	ones, y := []float32{1, 1, 1}, []float32{1, 2, 3}
	least, less := fromBits(0x3a83126e), float32(3.37e-7)
	rows := []columnRow{
		{nil, y, ""}, {[][]float32{}, y, ""}, {corners(impl.MaxColumns+1, impl.MaxColumns+1), placesOf(impl.MaxColumns + 1), ""},
		{repeated(ones, 1000), y, ""}, {[][]float32{nil}, nil, ""}, {[][]float32{{}}, []float32{}, ""},
		{[][]float32{ones}, y[:2], ""}, {[][]float32{ones}, []float32{1, 2, 3, 4}, ""}, {[][]float32{ones, {0, 1}}, y, ""},
		{[][]float32{{0, 1}, ones}, y, ""}, {[][]float32{{0, 1}, ones}, []float32{1, 2}, ""}, {[][]float32{{1, 2, 3, 4}, ones}, y, ""},
		// Columns that are the same, or nearly, or zeros, or more than places.
		{[][]float32{ones, ones}, y, ""}, {[][]float32{ones, {2, 2, 2}}, y, ""}, {[][]float32{ones, {1, 1, 1.0005}}, y, ""},
		{[][]float32{ones, {0, 1, 2}, {1, 2, 3}}, y, ""}, {[][]float32{{0, 0, 0}}, y, ""}, {[][]float32{ones, {0, 0, 0}}, y, ""},
		{[][]float32{{1, 2}, {3, 4}, {5, 6}}, []float32{1, 2}, ""}, {curves(2, 1), []float32{1}, ""},
		// Just as great as a pivot must not be, also the last one.
		{[][]float32{{least}}, []float32{5}, ""}, {[][]float32{{least, less}}, []float32{5, 5}, ""}, {[][]float32{{1, 0, 0}, {0, least, less}}, y, ""},
		// A sum is not finite, by which no term would be changed, or is one.
		{[][]float32{{1e20, 0}, {0, 1}}, []float32{1, 1}, ""}, {[][]float32{{1, 0}, {0, 1e20}}, []float32{1, 1}, ""},
		{[][]float32{{1e20, 0}, {1e20, 1}}, []float32{1, 1}, ""}, {[][]float32{{1e10}}, []float32{3e38}, ""}, {[][]float32{{1, 1}}, []float32{3e38, 3e38}, ""},
		{[][]float32{{1e19, -1e19, 1}, {3e19, 3e19, 1}}, y, ""},
		// A number behind a pivot, the right side, or a term is not finite.
		{[][]float32{{1, 0, 0}, {-1, 1, 1}}, []float32{3e38, 3e38, 3e38}, ""}, {[][]float32{{0.01}}, []float32{3e38}, ""},
		{[][]float32{{0.01, 0}, {0, 1}}, []float32{3e38, 1}, ""}, {[][]float32{{1, 0}, {3, 0.1}}, []float32{0, 2e38}, ""},
	}
	for _, row := range rows {
		terms, ok := impl.ColumnFit(row.columns, row.y)
		expect(t, "fit of "+shown(row.columns, row.y), shown(terms, ok), noNumbers)
		rest, squares, ok := impl.RestOfFit(row.columns, row.y)
		expect(t, "rest of "+shown(row.columns, row.y), shown(rest, squares, ok), "[] "+noNumber)
	}
	for _, wrong := range wrongSeries() {
		right := placesOf(len(wrong))
		terms, ok := impl.ColumnFit([][]float32{right}, wrong)
		expect(t, "fit to "+shown(wrong), shown(terms, ok), noNumbers)
		for i := range 2 {
			columns := curves(2, len(wrong))
			columns[i] = wrong
			terms, ok := impl.ColumnFit(columns, right)
			expect(t, "fit of "+shown(columns), shown(terms, ok), noNumbers)
		}
	}
}

func TestFittedOf(t *testing.T) {
	minusZero := fromBits(negZero)
	rows := []struct {
		columns [][]float32
		terms   []float32
		want    string
	}{
		{[][]float32{{1, 1}, {0, 2}}, []float32{1, 2}, "[3f800000 40a00000] true"}, {[][]float32{{3}}, []float32{-2}, sure(-6)},
		{[][]float32{{1, minusZero}}, []float32{minusZero}, "[00000000 00000000] true"}, {corners(6, 6), placesOf(6), sure(placesOf(6)...)},
		{[][]float32{wavy(), rough(), placesOf(12)}, []float32{0.1, -0.7, 3.3}, "[bd23d708 c002e147 411bc28f 3fc3d708 42e262d0 418d5a1c 41967ae1 411ce979 41e11eb8 41cc28f5 4228e148 42226666] true"},
		{[][]float32{steep(), placesOf(6)}, []float32{1e10, 1e30}, "[6fa18f08 7143e3d3 71e33123 7217d091 7244e652 727c6f7c] true"},
		{[][]float32{tiny(), tiny()}, []float32{0.5, 3}, "[00000003 015ffffe 8000000b 01600002 80000007] true"},
		// From left to right, where the sum is finite only by this.
		{[][]float32{{3e38}, {-3e38}, {3e38}}, []float32{1, 1, 1}, sure(3e38)}, {[][]float32{{3e38}, {3e38}, {-3e38}}, []float32{1, 1, 1}, noNumbers},
		{[][]float32{{1e8}, {1}, {-1e8}}, []float32{1, 1, 1}, sure(0)}, {[][]float32{{1, 3e38}}, []float32{2}, noNumbers},
		{nil, nil, noNumbers}, {nil, []float32{1}, noNumbers}, {[][]float32{{1}}, nil, noNumbers}, {[][]float32{{1}}, []float32{1, 2}, noNumbers},
		{[][]float32{{1}, {2}}, []float32{1}, noNumbers}, {[][]float32{{1}, {2, 3}}, []float32{1, 1}, noNumbers},
		{[][]float32{{2, 3}, {1}}, []float32{1, 1}, noNumbers}, {repeated([]float32{1}, 7), placesOf(7), noNumbers},
		{[][]float32{{0}}, []float32{fromBits(infBits)}, noNumbers}, {[][]float32{{0}, {1}}, []float32{1, fromBits(nanBits)}, noNumbers},
		{[][]float32{{0}, {1}}, []float32{fromBits(minusInf), 1}, noNumbers},
	}
	for _, row := range rows {
		fitted, ok := impl.FittedOf(row.columns, row.terms)
		expect(t, "fitted of "+shown(row.columns, row.terms), shown(fitted, ok), row.want)
	}
	for _, wrong := range wrongSeries() {
		for i := range 2 {
			columns := curves(2, len(wrong))
			columns[i] = wrong
			fitted, ok := impl.FittedOf(columns, []float32{1, 0})
			expect(t, "fitted of "+shown(columns), shown(fitted, ok), noNumbers)
		}
	}
	fitted, ok := impl.FittedOf(repeated(repeated(float32(1), impl.MaxLong), impl.MaxColumns), repeated(float32(2), impl.MaxColumns))
	expect(t, "fitted of as many as there may be", shown(fitted, ok), shown(repeated(float32(12), impl.MaxLong), true))
}

func TestRestOfFit(t *testing.T) {
	rows := []columnRow{
		{[][]float32{{1, 1}}, []float32{1, 3}, "[bf800000 3f800000] 40000000 true"}, {[][]float32{{2}}, []float32{7}, "[00000000] 00000000 true"},
		{curves(2, 12), wavy(), "[c2fcdfe7 c2fa059e c2d5ab57 c2d71ddb 4460d78e c30c8402 c2a15bd0 c29dc418 c26ce81c c28799c6 422a8106 c24430d2] 495dbe71 true"}, {curves(3, 12), rough(), "[be8de640 40a49742 c0cdac25 4102921a c0877292 c14bccb8 bff6375a 4176625b c05e105d 4077b090 3f6b30aa c08d91f4] 4416b71d true"},
		{[][]float32{{1, 0.1, 0, 0}, {7, 0.1, 0.7, 0}}, []float32{1, 2, 3.3, 0.9}, "[be8ac400 402d74e9 4014ad47 3f666666] 415a02aa true"},
		{curves(1, 5), tiny(), "[80333331 004ccccd 80333335 004ccccf 80333334] 00000000 true"},
		// The rest is finite, but not its squares.
		{curves(1, 6), steep(), "[] " + noNumber}, {[][]float32{{1, 0}}, []float32{1, 1e20}, "[] " + noNumber},
		// A number less the fitted one is not finite.
		{curves(1, 3), []float32{3.4e38, -3.4e38, -3.4e38}, "[] " + noNumber},
	}
	for _, row := range rows {
		rest, squares, ok := impl.RestOfFit(row.columns, row.y)
		expect(t, "rest of "+shown(row.columns, row.y), shown(rest, squares, ok), row.want)
	}
}

func TestLagColumns(t *testing.T) {
	minusZero, none := fromBits(negZero), "[] [] false"
	rows := []struct {
		list []float32
		lags int64
		want string
	}{
		{[]float32{1, 2, 3}, 1, "[[3f800000 3f800000] [3f800000 40000000]] [40000000 40400000] true"}, {[]float32{1, 2, 3}, 2, "[[3f800000] [40000000] [3f800000]] [40400000] true"},
		{[]float32{4, minusZero}, 1, "[[3f800000] [40800000]] [80000000] true"}, {[]float32{minusZero, 4}, 1, "[[3f800000] [80000000]] [40800000] true"},
		{placesOf(9), 3, "[[3f800000 3f800000 3f800000 3f800000 3f800000 3f800000] [40000000 40400000 40800000 40a00000 40c00000 40e00000] [3f800000 40000000 40400000 40800000 40a00000 40c00000] [00000000 3f800000 40000000 40400000 40800000 40a00000]] [40400000 40800000 40a00000 40c00000 40e00000 41000000] true"}, {placesOf(6), 5, "[[3f800000] [40800000] [40400000] [40000000] [3f800000] [00000000]] [40a00000] true"}, {placesOf(8), 5, "[[3f800000 3f800000 3f800000] [40800000 40a00000 40c00000] [40400000 40800000 40a00000] [40000000 40400000 40800000] [3f800000 40000000 40400000] [00000000 3f800000 40000000]] [40a00000 40c00000 40e00000] true"},
		{wavy(), 2, "[[3f800000 3f800000 3f800000 3f800000 3f800000 3f800000 3f800000 3f800000 3f800000 3f800000] [c02ccccd 41040000 3e99999a 447a0000 c23c70a4 40b00000 3d8f5c29 41480000 c0533333 42c7cccd] [40466666 c02ccccd 41040000 3e99999a 447a0000 c23c70a4 40b00000 3d8f5c29 41480000 c0533333]] [41040000 3e99999a 447a0000 c23c70a4 40b00000 3d8f5c29 41480000 c0533333 42c7cccd 3f800000] true"},
		{[]float32{1, 2, 3}, 3, none}, {[]float32{1, 2, 3}, 0, none}, {[]float32{1, 2, 3}, -1, none}, {[]float32{7}, 1, none}, {[]float32{7}, 0, none},
		{placesOf(5), 5, none}, {placesOf(9), 6, none}, {placesOf(9), impl.MaxColumns, none}, {placesOf(9), math.MaxInt64, none},
		{placesOf(9), math.MinInt64, none},
	}
	for _, row := range rows {
		columns, now, ok := impl.LagColumns(row.list, row.lags)
		expect(t, "lags of "+shown(row.list, row.lags), shown(columns, now, ok), row.want)
	}
	whole := placesOf(impl.MaxLong)
	columns, now, ok := impl.LagColumns(whole, 5)
	want := [][]float32{repeated(float32(1), 91), whole[4:95], whole[3:94], whole[2:93], whole[1:92], whole[:91]}
	expect(t, "lags of a long series", shown(columns, now, ok), shown(want, whole[5:], true))
}

func TestHarmonicFit(t *testing.T) {
	rows := []struct {
		list   []float32
		period float32
		count  int64
		want   string
	}{
		{[]float32{2, 2, 2, 2}, 4, 1, "[40000000 00000000 00000000] true"}, {[]float32{1, 0, -1, 0}, 4, 1, "[00000000 3f800000 00000000] true"},
		{[]float32{1, 3, 8}, 3, 1, "[40800000 c0400000 c038c088] true"}, {wavy(), 7, 1, "[42c3b6ed c30a486f c2ad4d31] true"}, {wavy(), 7, 2, "[429db5a4 c3190b59 c25b9791 42b24ac5 42f49e72] true"},
		{wavy(), 3.7, 2, "[429f8e5b 42f4b427 42945a3f 42291b1b 4326aaf9] true"}, {rough(), 5, 2, "[4041c54b c0995d95 bdbf2271 bf006cbe bf9b6dc9] true"}, {rough(), 0.7, 2, "[40066144 3f72ecd7 3fe76d92 403412c1 c046d41f] true"},
		{rough(), 40, 1, "[c10c5e59 4117a57a 4110d069] true"}, {steep(), 5, 2, "[5e44826d dedbec73 5ee87cb3 5f02392f ded2e662] true"}, {tiny(), 5, 1, "[00333332 80199999 00129978] true"},
		{wholeNumbers(impl.MaxLong), 7, 2, "[47402845 c58180ea c49071b7 c55a7f98 c5337c4f] true"}, {wholeNumbers(impl.MaxLong), 31.25, 1, "[4740aad0 c5ee5454 c5a4755d] true"},
		{wavy(), 7, 0, noNumbers}, {wavy(), 7, -1, noNumbers}, {wavy(), 7, math.MaxInt64, noNumbers}, {wavy(), 7, math.MinInt64, noNumbers},
		// With more waves there would be more columns than there may be.
		{wholeNumbers(impl.MaxLong), 31.25, 3, noNumbers}, {wholeNumbers(impl.MaxLong), 31.25, 4, noNumbers}, {wholeNumbers(impl.MaxLong), 31.25, 5, noNumbers},
		{wavy(), 0, 1, noNumbers}, {wavy(), fromBits(negZero), 1, noNumbers}, {wavy(), -7, 1, noNumbers}, {wavy(), fromBits(nanBits), 1, noNumbers},
		{wavy(), fromBits(infBits), 1, noNumbers}, {wavy(), fromBits(minusInf), 1, noNumbers},
		// Waves that are the same as 1, or as 0, or as each other.
		{wavy(), 1, 1, noNumbers}, {wavy(), 2, 1, noNumbers}, {wavy(), 3, 2, noNumbers}, {wavy(), fromBits(1), 1, noNumbers}, {wavy(), 3e38, 1, noNumbers},
		{[]float32{1, 2}, 7, 1, noNumbers}, {[]float32{1}, 7, 1, noNumbers}, {[]float32{1, 2, 3, 4}, 7, 2, noNumbers},
		{[]float32{3e38, 3e38, 3e38}, 7, 1, noNumbers},
	}
	for _, row := range rows {
		terms, ok := impl.HarmonicFit(row.list, row.period, row.count)
		expect(t, "waves of "+shown(row.list, row.period, row.count), shown(terms, ok), row.want)
	}
}

func TestHarmonicAt(t *testing.T) {
	five, minusZero := []float32{3.3, -2, 0.7, 11, -0.1}, fromBits(negZero)
	rows := []struct {
		terms  []float32
		period float32
		at     int64
		want   string
	}{
		{[]float32{5}, 4, 3, "40a00000 true"}, {[]float32{minusZero}, 4, 3, "00000000 true"}, {[]float32{1, 2, 3}, 4, 1, "40800000 true"},
		{five, 7, 0, "4144cccd true"}, {five, 7, 5, "c0dc86c8 true"}, {five[:3], 7, 5, "40440183 true"},
		{five, 7, -5, "c0ae12a8 true"}, {five, 7, 1000, "bf583116 true"},
		{five, 7, -1000, "3d619ae6 true"}, {five, 3.7, 999, "4144ccc2 true"},
		{five, 0.3, -77, "bf01804f true"}, {five, fromBits(1), 9, "4144cccd true"},
		{five, 3e38, 9, "4144cccd true"}, {[]float32{3e38, -3e38, 1}, 7, 0, "00000000 true"},
		{[]float32{3e38, 3e38, 0}, 7, 0, noNumber}, {[]float32{3e38, 3e38, 0, -3e38, 0}, 7, 0, noNumber},
		{five, 7, 1001, noNumber}, {five, 7, -1001, noNumber}, {five, 7, math.MaxInt64, noNumber}, {five, 7, math.MinInt64, noNumber},
		{nil, 7, 1, noNumber}, {five[:2], 7, 1, noNumber}, {five[:4], 7, 1, noNumber}, {placesOf(6), 7, 1, noNumber}, {placesOf(7), 7, 1, noNumber},
		{placesOf(97), 7, 1, noNumber}, {five, 0, 1, noNumber}, {five, minusZero, 1, noNumber}, {five, -7, 1, noNumber}, {five, fromBits(nanBits), 1, noNumber},
		{five, fromBits(infBits), 1, noNumber}, {five, fromBits(minusInf), 1, noNumber}, {[]float32{5}, 0, 1, noNumber}, {[]float32{5}, 7, 1001, noNumber},
		{[]float32{1, 2, fromBits(nanBits)}, 7, 0, noNumber}, {[]float32{fromBits(infBits)}, 7, 0, noNumber}, {[]float32{1, fromBits(minusInf), 2}, 4, 1, noNumber},
	}
	for _, row := range rows {
		x, ok := impl.HarmonicAt(row.terms, row.period, row.at)
		expect(t, "waves at "+shown(row.terms, row.period, row.at), shown(x, ok), row.want)
	}
}
