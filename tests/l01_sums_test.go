package tests

import (
	"math"
	"testing"

	"loop.example/g01375/impl"
)

func repeated[T any](value T, count int) []T {
	list := make([]T, count)
	for i := range list {
		list[i] = value
	}
	return list
}

func expectSum[T any](t *testing.T, what string, got T, ok bool, want T, wantOk bool) {
	t.Helper()
	expect(t, what, shown(got, ok), shown(want, wantOk))
}

func TestSumNumbers(t *testing.T) {
	inf, nan, minusZero := fromBits(infBits), fromBits(nanBits), fromBits(negZero)
	rows := []struct {
		list []float32
		want float32
	}{
		{nil, 0}, {[]float32{}, 0}, {[]float32{minusZero}, 0}, {[]float32{minusZero, minusZero}, 0},
		{[]float32{1, 2, 3.5}, 6.5}, {[]float32{1e8, 1, -1e8}, 0}, {[]float32{1e8, -1e8, 1}, 1},
		{[]float32{1, 1e8, -1e8}, 0}, {[]float32{1, 0x1p-24, 0x1p-24}, 1}, {[]float32{0x1p-24, 0x1p-24, 1}, 1 + 0x1p-23},
		{[]float32{fromBits(1), fromBits(2)}, fromBits(3)}, {[]float32{fromBits(0x800000), -fromBits(1)}, fromBits(0x7fffff)},
		{[]float32{3e38, 3e38, -3e38}, inf}, {[]float32{inf, -inf}, nan}, {[]float32{nan, 1}, nan},
		{repeated(float32(1), impl.MaxNumbers), impl.MaxNumbers},
		{repeated(float32(0.1), impl.MaxNumbers), fromBits(0x41cccced)},
	}
	for _, row := range rows {
		got, ok := impl.SumNumbers(row.list)
		expectSum(t, "sum of "+shown(row.list), got, ok, row.want, true)
	}
	got, ok := impl.SumNumbers(repeated(float32(1), impl.MaxNumbers+1))
	expectSum(t, "sum of too many", got, ok, 0, false)
}

func TestDotNumbers(t *testing.T) {
	inf, nan, minusZero := fromBits(infBits), fromBits(nanBits), fromBits(negZero)
	near := float32(1 + 0x1p-12) // its square is rounded to 1 + 2^-11
	rows := []struct {
		a, b []float32
		want float32
	}{
		{nil, []float32{}, 0}, {[]float32{1, 2}, []float32{3, 4}, 11}, {[]float32{-1}, []float32{0}, 0},
		{[]float32{minusZero, minusZero}, []float32{1, 1}, 0},
		{[]float32{1, near}, []float32{-(1 + 0x1p-11), near}, 0}, {[]float32{near, 1}, []float32{near, -(1 + 0x1p-11)}, 0},
		{[]float32{1e8, 1, -1e8}, []float32{1, 1, 1}, 0}, {[]float32{3e38, 3e38}, []float32{2, -2}, nan},
		{[]float32{fromBits(1), fromBits(1)}, []float32{0.5, 0.5}, 0}, {[]float32{fromBits(3)}, []float32{0.5}, fromBits(2)},
		{[]float32{inf}, []float32{0}, nan}, {[]float32{nan}, []float32{1}, nan}, {[]float32{3e38}, []float32{2}, inf},
		{repeated(float32(2), impl.MaxNumbers), repeated(float32(3), impl.MaxNumbers), 6 * impl.MaxNumbers},
	}
	for _, row := range rows {
		got, ok := impl.DotNumbers(row.a, row.b)
		expectSum(t, "products of "+shown(row.a, row.b), got, ok, row.want, true)
	}
	for _, long := range [][2]int{{0, 1}, {1, 0}, {2, 1}, {impl.MaxNumbers + 1, impl.MaxNumbers + 1},
		{impl.MaxNumbers, impl.MaxNumbers + 1}} {
		got, ok := impl.DotNumbers(repeated(float32(1), long[0]), repeated(float32(1), long[1]))
		expectSum(t, "products of wrong lengths", got, ok, 0, false)
	}
}

func TestSumComplex(t *testing.T) {
	inf, nan := fromBits(infBits), fromBits(nanBits)
	rows := []struct {
		list []complex64
		want complex64
	}{
		{nil, 0}, {[]complex64{fromPair(negZero, negZero)}, 0}, {[]complex64{1, complex(2, 3)}, complex(3, 3)},
		{[]complex64{complex(1e8, 1), complex(1, 1e8), complex(-1e8, -1e8)}, 0},
		{[]complex64{complex(1e8, -1), complex(-1e8, 1e8), complex(1, -1e8)}, complex(1, 0)},
		{[]complex64{complex(inf, 1), complex(-inf, nan), complex(1, 1)}, complex(nan, nan)},
		{[]complex64{fromPair(1, 0x80000002), fromPair(1, 1)}, fromPair(2, 0x80000001)},
		{repeated(complex64(complex(1, -2)), impl.MaxNumbers), complex(impl.MaxNumbers, -2*impl.MaxNumbers)},
	}
	for _, row := range rows {
		got, ok := impl.SumComplex(row.list)
		expectSum(t, "sum of "+shown(row.list), got, ok, row.want, true)
	}
	got, ok := impl.SumComplex(repeated(complex64(1), impl.MaxNumbers+1))
	expectSum(t, "sum of too many", got, ok, 0, false)
}

func TestComplexProductsSummed(t *testing.T) {
	inf, nan := fromBits(infBits), fromBits(nanBits)
	odd := float32(1 + 3*0x1p-23)
	rows := []struct {
		a, b             []complex64
		plain, conjugate complex64
	}{
		{nil, []complex64{}, 0, 0},
		{[]complex64{complex(0, 1)}, []complex64{complex(0, 1)}, -1, 1},
		{[]complex64{complex(1, 2)}, []complex64{complex(3, -1)}, complex(5, 5), complex(1, -7)},
		{[]complex64{complex(1, 2), complex(0, 1)}, []complex64{complex(3, -1), 2}, complex(5, 7), complex(1, -9)},
		{[]complex64{1e8, 1, -1e8}, []complex64{1, 1, 1}, 0, 0},
		// The parts of a product are narrowed once, and then added in 32 bits.
		{[]complex64{complex(odd, 1)}, []complex64{complex(odd, 1)}, fromPair(0x35400002, 0x40000003), fromPair(0x40000003, 0)},
		{[]complex64{fromPair(negZero, negZero)}, []complex64{1}, 0, 0},
		{[]complex64{complex(inf, 0)}, []complex64{1}, complex(inf, nan), complex(inf, nan)},
		{[]complex64{complex(nan, 0)}, []complex64{1}, complex(nan, nan), complex(nan, nan)},
		{repeated(complex64(complex(1, 1)), impl.MaxNumbers), repeated(complex64(complex(1, 1)), impl.MaxNumbers),
			complex(0, 2*impl.MaxNumbers), 2 * impl.MaxNumbers},
	}
	for _, row := range rows {
		got, ok := impl.DotComplex(row.a, row.b)
		expectSum(t, "products of "+shown(row.a, row.b), got, ok, row.plain, true)
		got, ok = impl.DotConjugate(row.a, row.b)
		expectSum(t, "products with conjugates of "+shown(row.a, row.b), got, ok, row.conjugate, true)
	}
	for _, long := range [][2]int{{0, 1}, {1, 0}, {2, 1}, {impl.MaxNumbers + 1, impl.MaxNumbers + 1}} {
		a, b := repeated(complex64(1), long[0]), repeated(complex64(1), long[1])
		got, ok := impl.DotComplex(a, b)
		expectSum(t, "products of wrong lengths", got, ok, 0, false)
		got, ok = impl.DotConjugate(a, b)
		expectSum(t, "products with conjugates of wrong lengths", got, ok, 0, false)
	}
}

func TestPowersOf(t *testing.T) {
	rows := []struct {
		list []complex64
		want uint32
	}{
		{nil, 0}, {[]complex64{complex(3, 4), 1}, 0x41d00000}, {[]complex64{fromPair(negZero, negZero)}, 0},
		// 2^24, 1 and 1: in 32 bits, each 1 would be lost.
		{[]complex64{1 << 12, 1, 1}, 0x4b800001}, {[]complex64{fromPair(0x5f800000, 0)}, infBits},
		// 2^-75 twice: each power is half of the least 32-bit number.
		{[]complex64{fromPair(0x1a000000, 0), fromPair(0, 0x1a000000)}, 1}, {[]complex64{fromPair(1, 1)}, 0},
		{[]complex64{fromPair(minusInf, 0), 1}, infBits}, {[]complex64{fromPair(infBits, nanBits)}, nanBits},
		{repeated(complex64(complex(1, 1)), impl.MaxNumbers), math.Float32bits(2 * impl.MaxNumbers)},
	}
	for _, row := range rows {
		got, ok := impl.PowersOf(row.list)
		expectSum(t, "powers of "+shown(row.list), got, ok, fromBits(row.want), true)
	}
	got, ok := impl.PowersOf(repeated(complex64(1), impl.MaxNumbers+1))
	expectSum(t, "powers of too many", got, ok, 0, false)
}
