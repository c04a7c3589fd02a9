package tests

import (
	"fmt"
	"math"
	"testing"

	"loop.example/g01375/impl"
)

func TestSameNumber(t *testing.T) {
	for i, a := range specialNumbers() {
		for k, b := range specialNumbers() {
			want := a != a && b != b || a == b && math.Signbit(float64(a)) == math.Signbit(float64(b))
			if got := impl.SameNumber(a, b); got != want {
				t.Errorf("SameNumber of special numbers %d and %d: got %v", i, k, got)
			}
			if got := impl.SameComplex(complex(a, 1), complex(b, 1)); got != want {
				t.Errorf("SameComplex with real parts %d and %d: got %v", i, k, got)
			}
			if got := impl.SameComplex(complex(1, a), complex(1, b)); got != want {
				t.Errorf("SameComplex with imaginary parts %d and %d: got %v", i, k, got)
			}
		}
	}
	if impl.SameNumber(0, fromBits(negZero)) || !impl.SameNumber(fromBits(0x7f800001), fromBits(0xffffffff)) {
		t.Error("zeros differ by their sign, and not-a-numbers are one value")
	}
	if impl.SameComplex(complex(1, 2), complex(2, 1)) {
		t.Error("SameComplex mixed up the parts")
	}
}

func TestIsFinite(t *testing.T) {
	for _, x := range append(specialNumbers(), scatter(2000)...) {
		want := math.Float32bits(x)&infBits != infBits
		if impl.IsFinite(x) != want {
			t.Errorf("IsFinite(%s): want %v", shown(x), want)
		}
		if impl.IsFiniteComplex(complex(x, 1)) != want || impl.IsFiniteComplex(complex(1, x)) != want {
			t.Errorf("IsFiniteComplex with %s: want %v", shown(x), want)
		}
	}
}

func TestBitsOf(t *testing.T) {
	rows := []struct {
		x    float32
		want int64
	}{
		{0, 0}, {fromBits(negZero), 2147483648}, {1, 1065353216}, {-2, 3221225472},
		{fromBits(1), 1}, {fromBits(0x807fffff), 0x807fffff}, {fromBits(infBits), 2139095040},
		{fromBits(minusInf), 4286578688}, {fromBits(nanBits), 2143289344},
		{fromBits(0xffc00000), 2143289344}, {fromBits(0x7f800001), 2143289344}, {fromBits(0xffffffff), 2143289344},
	}
	for _, row := range rows {
		if got := impl.BitsOf(row.x); got != row.want {
			t.Errorf("BitsOf(%s): got %d, want %d", shown(row.x), got, row.want)
		}
	}
}

func TestFromBits(t *testing.T) {
	for _, x := range append(specialNumbers(), scatter(2000)...) {
		got, ok := impl.FromBits(int64(math.Float32bits(x)))
		expect(t, "FromBits", shown(got, ok), shown(x, true))
		if x == x && impl.BitsOf(got) != int64(math.Float32bits(x)) {
			t.Errorf("bits of %s are not read back", shown(x))
		}
	}
	for _, n := range []int64{-1, 1 << 32, math.MinInt64, math.MaxInt64, 1<<32 + 0x3f800000} {
		got, ok := impl.FromBits(n)
		expect(t, "FromBits beyond", shown(got, ok), shown(float32(0), false))
	}
}

func TestNarrowNumber(t *testing.T) {
	rows := []struct {
		x    float64
		want uint32
	}{
		{0, 0}, {math.Copysign(0, -1), negZero}, {0.5, 0x3f000000}, {0.1, 0x3dcccccd},
		{1 + 0x1p-24, 0x3f800000}, {1 + 0x1p-24 + 0x1p-50, 0x3f800001}, {1 + 3*0x1p-24, 0x3f800002},
		{0x1p-150, 0}, {-0x1p-150, negZero}, {0x1.8p-150, 1}, {0x1p-149, 1}, {0x1.8p-149, 2}, {0x1.4p-148, 2},
		{0x1.fffffep127, 0x7f7fffff}, {0x1.fffffefffffffp127, 0x7f7fffff}, {0x1.ffffffp127, infBits},
		{1e300, infBits}, {-1e300, minusInf}, {5e-324, 0}, {math.Inf(-1), minusInf}, {math.NaN(), nanBits},
	}
	for _, row := range rows {
		what := fmt.Sprintf("narrowed %x", row.x)
		expectBits(t, what, impl.NarrowNumber(row.x), row.want)
		expectPair(t, what, impl.NarrowComplex(complex(row.x, 0.5)), row.want, 0x3f000000)
		expectPair(t, what, impl.NarrowComplex(complex(0.5, row.x)), 0x3f000000, row.want)
	}
}

func TestSubnormal(t *testing.T) {
	for _, x := range append(specialNumbers(), scatter(2000)...) {
		bits := math.Float32bits(x)
		tiny := bits&infBits == 0 && bits&0x7fffff != 0
		if impl.IsSubnormal(x) != tiny {
			t.Errorf("IsSubnormal(%s): want %v", shown(x), tiny)
		}
		if tiny {
			bits &= negZero
		}
		expect(t, "FlushNumber", shown(impl.FlushNumber(x)), shown(fromBits(bits)))
	}
}

func TestSmallProductsAreExact(t *testing.T) {
	for a := -7; a <= 7; a++ {
		for b := -7; b <= 7; b++ {
			for c := -7; c <= 7; c++ {
				for d := -7; d <= 7; d++ {
					x, y := complex(float32(a), float32(b)), complex(float32(c), float32(d))
					if got := impl.MulComplex(x, y); got != complex(float32(a*c-b*d), float32(a*d+b*c)) {
						t.Fatalf("product of %v and %v: got %v", x, y, got)
					}
				}
			}
		}
	}
}

func TestMulComplex(t *testing.T) {
	z := uint32(negZero)
	rows := [][6]uint32{
		{0x3f800000, 0x40000000, 0x40400000, 0xbf800000, 0x40a00000, 0x40a00000}, // 1 + 2 i, 3 - i, 5 + 5 i
		{0, 0, 0, 0, 0, 0}, {z, 0, 0x3f800000, 0, z, 0}, {0, z, 0x3f800000, 0, 0, 0}, {z, z, 0x3f800000, 0, 0, z},
		{1, 0, 0x3f000000, 0, 0, 0}, {1, 0, 0x3f000001, 0, 1, 0}, {3, 0, 0x3f000000, 0, 2, 0},
		{0x7f7fffff, 0, 0x40000000, 0, infBits, 0},
		// (2^100 + 2^100 i) (2^100 + 2^100 i): 32-bit products would be infinite.
		{0x71800000, 0x71800000, 0x71800000, 0x71800000, 0, infBits},
		// (1 + 3 2^-23)^2 - 1: narrowed only in the end.
		{0x3f800003, 0x3f800000, 0x3f800003, 0x3f800000, 0x35400002, 0x40000003},
		{infBits, 0, 0x3f800000, 0, infBits, nanBits}, {infBits, infBits, infBits, infBits, nanBits, infBits},
		{nanBits, 0, 0x3f800000, 0, nanBits, nanBits}, {infBits, nanBits, infBits, nanBits, nanBits, nanBits},
	}
	for _, r := range rows {
		x, y := fromPair(r[0], r[1]), fromPair(r[2], r[3])
		expectPair(t, "product of "+shown(x, y), impl.MulComplex(x, y), r[4], r[5])
	}
}

func TestScaleComplex(t *testing.T) {
	rows := [][5]uint32{
		{0x3f800000, 0x40000000, 0x3f000000, 0x3f000000, 0x3f800000},
		{0, negZero, 0xbf800000, negZero, 0}, {1, 3, 0x3f000000, 0, 2}, {1, 0x80000003, 0xbf000000, negZero, 2},
		{0x7f7fffff, 0xff7fffff, 0x40000000, infBits, minusInf}, {infBits, nanBits, 0, nanBits, nanBits},
		{0x3f800001, 0x3f800003, 0x3f800001, 0x3f800002, 0x3f800004},
	}
	for _, r := range rows {
		x, by := fromPair(r[0], r[1]), fromBits(r[2])
		expectPair(t, "scaled "+shown(x, by), impl.ScaleComplex(x, by), r[3], r[4])
	}
}

func TestConjugateOf(t *testing.T) {
	for _, x := range append(specialNumbers(), scatter(500)...) {
		bits := math.Float32bits(x)
		expectPair(t, "conjugate with "+shown(x), impl.ConjugateOf(complex(x, x)), bits, bits^negZero)
	}
}

func TestPowerAndLong(t *testing.T) {
	rows := [][4]uint32{ // both parts, the power and its root
		{0x40400000, 0x40800000, 0x41c80000, 0x40a00000}, {0xc0400000, 0x40800000, 0x41c80000, 0x40a00000},
		{0, 0, 0, 0}, {negZero, negZero, 0, 0}, {1, 0, 0, 1}, {0x80000003, 0x80000004, 0, 5},
		{0x7f7fffff, 0, infBits, 0x7f7fffff}, {0x7f7fffff, 0x7f7fffff, infBits, infBits},
		{0x71800000, 0, infBits, 0x71800000}, {infBits, 0, infBits, infBits}, {0, minusInf, infBits, infBits},
		{nanBits, infBits, nanBits, nanBits}, {nanBits, 0, nanBits, nanBits},
		// 2^-80 and 0: the power is a subnormal 0 in 32 bits, its root is not.
		{0x17800000, 0, 0, 0x17800000}, {0x3f800001, 0x33800000, 0x3f800002, 0x3f800001},
	}
	for _, r := range rows {
		x := fromPair(r[0], r[1])
		expectBits(t, "power of "+shown(x), impl.PowerOf(x), r[2])
		expectBits(t, "long of "+shown(x), impl.LongOf(x), r[3])
	}
}

func TestQuotientOf(t *testing.T) {
	z := uint32(negZero)
	rows := [][6]uint32{
		{0, 0x40800000, 0x40000000, 0, 0, 0x40000000},                            // 4 i by 2 is 2 i
		{0x40a00000, 0x40a00000, 0x40400000, 0xbf800000, 0x3f800000, 0x40000000}, // 5 + 5 i by 3 - i
		{0x3f800000, 0x40000000, 0x40400000, 0x40800000, 0x3ee147ae, 0x3da3d70a},
		{0x3f800000, 0, 0x40400000, 0, 0x3eaaaaab, 0}, {0x3f800000, z, 0x40400000, 0, 0x3eaaaaab, z},
		{0x3f800000, z, 0x40400000, z, 0x3eaaaaab, 0}, {z, z, 0x3f800000, 0, z, 0},
		{0x7f7fffff, 0, 0x7f7fffff, 0, 0x3f800000, 0}, {1, 0, 1, 0, 0x3f800000, 0},
		{0, 3, 0x40000000, 0, 0, 2}, {0x7f7fffff, 0, 0x3f000000, 0, infBits, 0},
		{0x3f800000, 0, 0, 0, nanBits, nanBits}, {0, 0, 0, 0, nanBits, nanBits}, {1, 1, z, z, nanBits, nanBits},
		{0x3f800000, 0, infBits, 0, nanBits, nanBits}, {nanBits, 0, 0x3f800000, 0, nanBits, nanBits},
		{0x3f800000, 0, 1, 0, infBits, 0}, {infBits, 0, 0x3f800000, 0, infBits, nanBits},
	}
	for _, r := range rows {
		x, y := fromPair(r[0], r[1]), fromPair(r[2], r[3])
		expectPair(t, "quotient of "+shown(x, y), impl.QuotientOf(x, y), r[4], r[5])
	}
}

func TestRootNumber(t *testing.T) {
	rows := [][2]uint32{
		{0, 0}, {negZero, negZero}, {0x3f800000, 0x3f800000}, {0x41100000, 0x40400000},
		{0x40000000, 0x3fb504f3}, {0x40400000, 0x3fddb3d7}, {0x3e800000, 0x3f000000},
		{1, 0x1a3504f3}, {0x7fffff, 0x1fffffff}, {0x800000, 0x20000000}, {0x7f7fffff, 0x5f7fffff},
		{infBits, infBits}, {minusInf, nanBits}, {0xbf800000, nanBits}, {0x80000001, nanBits}, {nanBits, nanBits},
	}
	for _, r := range rows {
		expectBits(t, "root of "+shown(fromBits(r[0])), impl.RootNumber(fromBits(r[0])), r[1])
	}
}
