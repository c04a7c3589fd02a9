package tests

import (
	"fmt"
	"math"
	"testing"

	"loop.example/g01375/impl"
)

// The bits in these tables were computed step by step, as the document tells
// it, outside of Go. Some rows are there because a step more or less, another
// order, a fused step or a library function makes another number of them.

func TestSineTurns(t *testing.T) {
	rows := [][2]uint32{
		{0, 0}, {negZero, negZero}, {0x3e800000, 0x3f800000}, {0xbe800000, 0xbf800000},
		{0x3f000000, negZero}, {0xbf000000, negZero}, {0x3f400000, 0xbf800000},
		{0xbf400000, 0x3f800000}, {0x3f800000, 0}, {0xbf800000, 0}, {0x3e000000, 0x3f3504f3},
		{0x3dcccccd, 0x3f167918}, {0xbdcccccd, 0xbf167918}, {0x3e99999a, 0x3f737870},
		{0xbe99999a, 0xbf737870}, {0x3ecccccd, 0x3f167918}, {0x3f19999a, 0xbf16791a},
		{0x3f666666, 0xbf16791a}, {0x3f8ccccd, 0x3f16791a}, {0xbf8ccccd, 0xbf16791a},
		{0x42c8c000, 0x3f3504f3}, {0xc2c8c000, 0xbf3504f3}, {0x1, 0x6},
		{0x80000001, negZero}, {0x007fffff, 0x01c90fd9}, {0x00800000, 0x01c90fdb},
		{0x80800000, negZero}, {0x1e3ce508, 0x1f945b86}, {0x9e3ce508, negZero},
		{0x3f433fd6, 0xbf7f2fb3}, {0x3e825633, 0x3f7fe50f}, {0x4affffff, negZero}, {0x59000000, 0},
		{0x597fffff, 0}, {0x59800000, 0}, {0xd9800000, 0}, {0x7f7fffff, 0}, {0xff7fffff, 0},
		{infBits, nanBits}, {minusInf, nanBits}, {nanBits, nanBits},
		{0x3effffff, 0x34490fdb}, {0x3f000001, 0xb4c90fdb}, {0x3f7fffff, 0xb4c90fdb},
		{0x3e5d5c85, 0x3f7a3d54}, {0x3e66405f, 0x3f7ccfc5},
	}
	for _, r := range rows {
		x := fromBits(r[0])
		expectBits(t, "sine of "+shown(x), impl.SineTurns(x), r[1])
	}
}

func TestPhasorOf(t *testing.T) {
	rows := []struct {
		turns  float64
		re, im uint32
	}{
		{0, 0x3f800000, 0}, {math.Copysign(0, -1), 0x3f800000, negZero},
		{math.Inf(1), nanBits, nanBits}, {math.Inf(-1), nanBits, nanBits}, {math.NaN(), nanBits, nanBits},
		{0.25, 0, 0x3f800000}, {0.5, 0xbf800000, 0}, {0.75, 0, 0xbf800000}, {1, 0x3f800000, 0},
		{-0.25, 0, 0xbf800000}, {-0.5, 0xbf800000, 0}, {-0.75, 0, 0x3f800000}, {-1, 0x3f800000, 0},
		{0.125, 0x3f3504f3, 0x3f3504f3}, {0.375, 0xbf3504f3, 0x3f3504f3}, {0.625, 0xbf3504f3, 0xbf3504f3},
		{0.875, 0x3f3504f3, 0xbf3504f3}, {0.1, 0x3f4f1bbd, 0x3f167918}, {-0.1, 0x3f4f1bbd, 0xbf167918},
		{0.3, 0xbe9e377a, 0x3f737871}, {-0.3, 0xbe9e377a, 0xbf737871}, {0.55, 0xbf737871, 0xbe9e377a},
		{0.8, 0x3e9e377a, 0xbf737871}, {1e-20, 0x3f800000, 0x1f945b86}, {-1e-20, 0x3f800000, 0},
		{5e-324, 0x3f800000, 0}, {-5e-324, 0x3f800000, 0}, {-1e-17, 0x3f800000, 0},
		{1000.2, 0x3e9e377a, 0x3f737871}, {-1000.2, 0x3e9e377a, 0xbf737871},
		{4503599627370495.5, 0xbf800000, 0}, {-4503599627370495.5, 0xbf800000, 0},
		{1125899906842623.75, 0, 0xbf800000}, {4503599627370496, 0x3f800000, 0},
		{-4503599627370496, 0x3f800000, 0}, {1e300, 0x3f800000, 0}, {-1e300, 0x3f800000, 0},
		{0.3333333333333333, 0xbf000000, 0x3f5db3d7}, {-0.3333333333333333, 0xbf000000, 0xbf5db3d7},
		{0.24999999999999997, 0x25490fdb, 0x3f800000}, {0.49999999999999994, 0xbf800000, 0x25c90fdb},
		{0.7499999999999999, 0xa6490fdb, 0xbf800000}, {0.9999999999999999, 0x3f800000, 0xa6490fdb},
	}
	for _, r := range rows {
		expectPair(t, fmt.Sprintf("phasor of %v turns", r.turns), impl.PhasorOf(r.turns), r.re, r.im)
	}
}

func TestAngles(t *testing.T) {
	rows := [][3]uint32{ // y, x and the angle
		{0, 0x3f800000, 0}, {negZero, 0x3f800000, 0}, {0, 0xbf800000, 0x3f000000},
		{negZero, 0xbf800000, 0x3f000000}, {0x3f800000, 0, 0x3e800000},
		{0x3f800000, negZero, 0x3e800000}, {0xbf800000, 0, 0xbe800000},
		{0xbf800000, negZero, 0xbe800000}, {0, 0, 0}, {negZero, 0, 0}, {0, negZero, 0},
		{negZero, negZero, 0}, {0x3f800000, 0x3f800000, 0x3e000000},
		{0x3f800000, 0xbf800000, 0x3ec00000}, {0xbf800000, 0x3f800000, 0xbe000000},
		{0xbf800000, 0xbf800000, 0xbec00000}, {0x40400000, 0x40800000, 0x3dd1bfae},
		{0x40800000, 0x40400000, 0x3e172029}, {0xc0400000, 0x40800000, 0xbdd1bfae},
		{0x40400000, 0xc0800000, 0x3ecb9014}, {0xc0800000, 0xc0400000, 0xbeb46fec},
		{0x3f800000, 0x40400000, 0x3d51bfae}, {0x1, 0x3f800000, 0},
		{0x80000001, 0x3f800000, negZero}, {0x1, 0xbf800000, 0x3f000000},
		{0x1, 0x1, 0x3e000000}, {0x3f800000, 0x1, 0x3e800000},
		{0x1, 0x7f7fffff, 0}, {0x80000001, 0x7f7fffff, negZero},
		{0x7f7fffff, 0x1, 0x3e800000}, {0x7f7fffff, 0x7f7fffff, 0x3e000000},
		{infBits, 0x3f800000, nanBits}, {0x3f800000, minusInf, nanBits},
		{nanBits, 0, nanBits}, {0, nanBits, nanBits}, {infBits, infBits, nanBits},
		{0x3f05a3c3, 0x3f0606da, 0x3dff8756}, {0x3f776cd3, 0x3f79c0bd, 0x3dfe7953},
		{0x3f55678c, 0x3f6d9152, 0x3dee8d60}, {0x3f000000, 0xbdcccccd, 0x3e9015d2},
		{0xbf333333, 0x3e4ccccd, 0xbe52a4eb},
		{0x3f7fd6be, 0x3f7fe651, 0x3dfff614}, {0x3f666f86, 0x3f6b9b6d, 0x3dfc621b},
		{0x3f730818, 0x3f76dc97, 0x3dfd73a5},
	}
	for _, r := range rows {
		y, x := fromBits(r[0]), fromBits(r[1])
		expectBits(t, "angle of "+shown(y, x), impl.AngleTurns(y, x), r[2])
		expectBits(t, "angle of the complex "+shown(x, y), impl.AngleOf(complex(x, y)), r[2])
	}
	expectBits(t, "angle of the phasor of 0.25", impl.AngleOf(impl.PhasorOf(0.25)), 0x3e800000)
}

func TestTenthsOf(t *testing.T) {
	rows := []struct {
		power uint32
		want  int64
	}{
		{0x3f800000, 0}, {0x40000000, 30}, {0x3f000000, -30}, {0x41200000, 100}, {0x42c80000, 200},
		{0x3dcccccd, -100}, {0x3c23d70a, -200}, {0x49742400, 600}, {0x447a0000, 300}, {0x40400000, 48},
		{0x3f400000, -12}, {0x3f3fffff, -12}, {0x3fc00000, 18}, {0x3fbfffff, 18}, {0x1, -4485},
		{0x007fffff, -3793}, {0x00800000, -3793}, {0x7f7fffff, 3853}, {0x3fa00000, 10}, {0x3f666666, -5},
		{0x1, -4485}, {0x2, -4455}, {0x3efdaba5, -31}, {0x3efdaba6, -30}, {0x3f774f1c, -2},
		{0x3f774f1d, -1}, {0x3f7d11d0, -1}, {0x3f7d11d1, 0}, {0x3f817b6f, 0}, {0x3f817b70, 1},
		{0x3f94aa59, 6}, {0x3f94aa5a, 7}, {0x53fbc608, 1233}, {0x53fbc609, 1234},
	}
	for _, r := range rows {
		got, ok := impl.TenthsOf(fromBits(r.power))
		expect(t, "tenths of "+shown(fromBits(r.power)), shown(got, ok), shown(r.want, true))
	}
	for _, bits := range []uint32{0, negZero, 0xbf800000, 0x80000001, infBits, minusInf, nanBits} {
		got, ok := impl.TenthsOf(fromBits(bits))
		expect(t, "tenths of "+shown(fromBits(bits)), shown(got, ok), shown(int64(0), false))
	}
}

func TestLogNumber(t *testing.T) {
	rows := [][2]uint32{
		{0x3f800000, 0}, {0, minusInf}, {negZero, minusInf}, {infBits, infBits},
		{minusInf, nanBits}, {nanBits, nanBits}, {0xbf800000, nanBits},
		{0x80000001, nanBits}, {0xff7fffff, nanBits}, {0x40000000, 0x3f317218},
		{0x3f000000, 0xbf317218}, {0x41200000, 0x40135d8e}, {0x3dcccccd, 0xc0135d8e},
		{0x3f400000, 0xbe934b11}, {0x3f3fffff, 0xbe934b13}, {0x3fc00000, 0x3ecf991f},
		{0x3fbfffff, 0x3ecf991d}, {0x40400000, 0x3f8c9f54}, {0x1, 0xc2ce8ed0},
		{0x007fffff, 0xc2aeac50}, {0x00800000, 0xc2aeac50}, {0x7f7fffff, 0x42b17218},
		{0x3f800001, 0x33ffffff}, {0x3f7fffff, 0xb3800000}, {0x3f80000b, 0x35affff8},
		{0x41178feb, 0x400fe5e7}, {0x402df854, 0x3f7fffff},
		{0x3f3f5ec0, 0xbe94f9c5}, {0x3ebf0802, 0xbf7c631e}, {0x413f11d4, 0x401eb921},
	}
	for _, r := range rows {
		x := fromBits(r[0])
		expectBits(t, "logarithm of "+shown(x), impl.LogNumber(x), r[1])
	}
}

func TestExpNumber(t *testing.T) {
	rows := [][2]uint32{
		{0, 0x3f800000}, {negZero, 0x3f800000}, {0x3f800000, 0x402df854}, {0xbf800000, 0x3ebc5ab2},
		{0x3f000000, 0x3fd3094c}, {0x40000000, 0x40ec7326}, {0x41200000, 0x46ac14ee},
		{0xc1200000, 0x383e6bce}, {0x42b00000, 0x7ef882b7}, {0x42b17217, 0x7f7fff84},
		{0x42b17218, infBits}, {0x42b20000, infBits}, {0xc2ae0000, 0x00b33687},
		{0xc2b00000, 0x0041edc4}, {0xc2c80000, 0x0000001b}, {0xc2ce0000, 0x1},
		{0xc2cf0000, 0x1}, {0xc2d00000, 0}, {0xc2d20000, 0}, {0x43480000, infBits},
		{0xc3480000, 0}, {0x43480001, infBits}, {0xc3480001, 0}, {0x43490000, infBits},
		{0xc3490000, 0}, {0x7f7fffff, infBits}, {0xff7fffff, 0}, {infBits, infBits},
		{minusInf, 0}, {nanBits, nanBits}, {0x1, 0x3f800000}, {0x80000001, 0x3f800000},
		{0xc294b03a, 0x09d6605b}, {0x42acc9e2, 0x7dc78db1}, {0xc16912cd, 0x34fd331a},
		{0xc1963bdb, 0x31f01195}, {0x3dcccccd, 0x3f8d763e},
	}
	for _, r := range rows {
		x := fromBits(r[0])
		expectBits(t, "power of e to "+shown(x), impl.ExpNumber(x), r[1])
	}
}
