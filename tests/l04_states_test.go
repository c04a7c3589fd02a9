package tests

import (
	"math"
	"testing"

	"loop.example/g01375/impl"
)

// The bits in the tests of chapter 4 were computed outside of Go, each
// operation rounded on its own.

const (
	noState = "00000000 00000000 [] 0 false"
	noStep  = "00000000 00000000 [] 0 00000000 false"
)

func stateOf(level, slope float32, at int64, season ...float32) impl.State {
	return impl.State{Level: level, Slope: slope, Season: season, At: at}
}

func sharesOf(level, slope, season, damp float32) impl.Shares {
	return impl.Shares{Level: level, Slope: slope, Season: season, Damp: damp}
}

func halfShares() impl.Shares { return sharesOf(0.5, 0.5, 0.5, 1) }

// wrongShareNumbers are next to the numbers from 0 to 1, and far from them.
func wrongShareNumbers() []float32 {
	return []float32{-fromBits(1), fromBits(0x3f800001), -1, 2, 3e38, fromBits(infBits), fromBits(minusInf), fromBits(nanBits)}
}

func wrongShares() []impl.Shares {
	var wrong []impl.Shares
	for _, x := range wrongShareNumbers() {
		wrong = append(wrong, sharesOf(x, 0.5, 0.5, 0.5), sharesOf(0.5, x, 0.5, 0.5), sharesOf(0.5, 0.5, x, 0.5), sharesOf(0.5, 0.5, 0.5, x), sharesOf(x, x, x, x))
	}
	return wrong
}

func wrongStates() []impl.State {
	wrong := []impl.State{{}, stateOf(1, 2, 0), stateOf(1, 2, -1, 3), stateOf(1, 2, 1, 3), stateOf(1, 2, 2, 3, 4), stateOf(1, 2, math.MaxInt64, 3), stateOf(1, 2, math.MinInt64, 3),
		stateOf(1, 2, 0, repeated(float32(1), impl.MaxPeriod+1)...), stateOf(1, 2, impl.MaxPeriod, repeated(float32(1), impl.MaxPeriod)...),
		stateOf(1, 2, impl.MaxPeriod, repeated(float32(1), impl.MaxPeriod+1)...), stateOf(1, 2, 0, repeated(float32(1), 1000)...)}
	for _, x := range []float32{fromBits(infBits), fromBits(minusInf), fromBits(nanBits)} {
		wrong = append(wrong, stateOf(x, 2, 0, 3, 4), stateOf(1, x, 0, 3, 4), stateOf(1, 2, 0, x, 4), stateOf(1, 2, 0, 3, x),
			stateOf(1, 2, 0, append(repeated(float32(1), impl.MaxPeriod-1), x)...))
	}
	return wrong
}

func TestSmoothingLimits(t *testing.T) {
	expect(t, "limits", shown(impl.MaxPeriod, impl.MaxReach, impl.MaxDraws), "24 32 64")
}

func TestValidShares(t *testing.T) {
	for _, x := range []float32{0, fromBits(negZero), fromBits(1), 0.3, fromBits(0x3f7fffff), 1} {
		for _, h := range []impl.Shares{sharesOf(x, 0, 1, 0.5), sharesOf(0, x, 0, 1), sharesOf(1, 0.5, x, 0), sharesOf(0.5, 1, 1, x), sharesOf(x, x, x, x)} {
			expect(t, "valid "+shown(h), shown(impl.ValidShares(h)), "true")
		}
	}
	for _, h := range wrongShares() {
		expect(t, "valid "+shown(h), shown(impl.ValidShares(h)), "false")
	}
}

func TestValidState(t *testing.T) {
	states := []impl.State{stateOf(1, 2, 0, 3), stateOf(0, fromBits(negZero), 0, fromBits(negZero)), stateOf(-3.4e38, 3.4e38, 0, 3.4e38, -3.4e38), stateOf(1, 2, 1, 3, 4),
		stateOf(1, 2, 0, repeated(float32(1), impl.MaxPeriod)...), stateOf(1, 2, impl.MaxPeriod-1, repeated(float32(1), impl.MaxPeriod)...), stateOf(fromBits(1), fromBits(0x807fffff), 3, tiny()...)}
	for _, s := range states {
		expect(t, "valid "+shown(s), shown(impl.ValidState(s)), "true")
	}
	for _, s := range wrongStates() {
		expect(t, "valid "+shown(s), shown(impl.ValidState(s)), "false")
	}
}

func TestSameState(t *testing.T) {
	inf, nan, minusZero := fromBits(infBits), fromBits(nanBits), fromBits(negZero)
	other := fromBits(0xffc00001)
	states := []impl.State{stateOf(1, 2, 0, 3, 4), stateOf(1, 2, 1, 3, 4), stateOf(5, 2, 0, 3, 4), stateOf(1, 5, 0, 3, 4), stateOf(1, 2, 0, 5, 4), stateOf(1, 2, 0, 3, 5), stateOf(1, 2, 0, 4, 3),
		stateOf(1, 2, 0, 3), stateOf(1, 2, 0, 3, 4, 0), stateOf(2, 1, 0, 3, 4), {}, stateOf(0, 0, 0, 0), stateOf(minusZero, 0, 0, 0), stateOf(0, minusZero, 0, 0), stateOf(0, 0, 0, minusZero),
		stateOf(nan, 0, 0, 0), stateOf(0, nan, 0, 0), stateOf(0, 0, 0, nan), stateOf(inf, 0, 0, 0), stateOf(-inf, 0, 0, 0), stateOf(0, inf, 0, 0), stateOf(0, 0, 0, inf), stateOf(nan, nan, -7, nan),
		stateOf(0, 0, math.MaxInt64), stateOf(0, 0, math.MinInt64), stateOf(0, 0, 0, repeated(nan, 1000)...), stateOf(0, 0, 0, repeated(nan, 999)...)}
	for i, a := range states {
		for k, b := range states {
			// One in memory of its own.
			b.Season = append([]float32{}, b.Season...)
			expect(t, "the same: "+shown(a)+" and "+shown(b), shown(impl.SameState(a, b)), shown(i == k))
		}
	}
	expect(t, "the same not-a-numbers", shown(impl.SameState(stateOf(nan, other, 9, other, nan), stateOf(other, nan, 9, nan, other))), "true")
	expect(t, "no seasons", shown(impl.SameState(impl.State{}, impl.State{Season: []float32{}})), "true")
}

func TestStartState(t *testing.T) {
	rows := []struct {
		list   []float32
		period int64
		want   string
	}{
		{[]float32{1, 3, 5}, 1, "3f800000 40000000 [00000000] 0 true"}, {[]float32{1, 3, 2, 4}, 2, "40000000 3f000000 [bf800000 3f800000] 0 true"}, {[]float32{1, 3, 2}, 2, "40000000 00000000 [bf800000 3f800000] 0 true"}, {[]float32{1, 3, 2, 7, 9}, 2, "40000000 3fa00000 [bf800000 3f800000] 0 true"}, {[]float32{7}, 1, "40e00000 00000000 [00000000] 0 true"}, {[]float32{7, 7}, 1, "40e00000 00000000 [00000000] 0 true"},
		{[]float32{1, 2, 4}, 3, "40155555 00000000 [bfaaaaaa beaaaaa8 3fd55556] 0 true"}, {[]float32{1, 2, 4, 8, 16}, 3, "40155555 00000000 [bfaaaaaa beaaaaa8 3fd55556] 0 true"}, {[]float32{1, 2, 4, 8, 16, 32}, 3, "40155555 40ae38e3 [bfaaaaaa beaaaaa8 3fd55556] 0 true"}, {[]float32{1, 2, 4, 8, 16, 32, 64}, 3, "40155555 40ae38e3 [bfaaaaaa beaaaaa8 3fd55556] 0 true"},
		{wavy(), 1, "40466666 c0b9999a [00000000] 0 true"}, {wavy(), 5, "4349ca3e c2269b3e [c346b0a4 c34c7d71 c3418a3e c3497d71 44478d70] 0 true"}, {wavy(), 6, "43204e82 c1bc09ac [c31d34e8 c32301b5 c3180e82 c32001b5 4451ec60 c34f6aab] 0 true"}, {wavy(), 7, "430a3102 00000000 [c3071768 c30ce435 c301f102 c309e435 445773c0 c3394d2b c304b102] 0 true"}, {wavy(), 12, "42b395c3 00000000 [c2ad6290 c2b8fc29 c2a315c3 c2b2fc29 44638d48 c308e70a c2a895c3 c2b371ec c29a95c3 c2ba2f5d 4121b850 c2b195c3] 0 true"},
		{rough(), 3, "3fbddddd bdbf2580 [bf7bbbba 40b88889 c0991111] 0 true"}, {tiny(), 2, "00400000 80000000 [803fffff 003fffff] 0 true"}, {steep(), 3, "5f14079d de7ebc09 [dd1407a0 df3da9c1 5f46ea3b] 0 true"}, {wholeNumbers(impl.MaxLong), impl.MaxPeriod, "475b9de0 c4048f38 [c75b9de0 c73c8fe0 c6bf47c0 466c9880 c6e5a9c0 4723b120 46e2e440 46fa2240 c74014e0 c662e780 470c7f20 450f3200 c672eb80 c68915c0 c567ce00 46cade40 c6ded3c0 47003e20 461c8480 453e2200 463a0480 470efe20 c6b293c0 4702ef20] 0 true"},
		{wholeNumbers(2*impl.MaxPeriod - 1), impl.MaxPeriod, "475b9de0 00000000 [c75b9de0 c73c8fe0 c6bf47c0 466c9880 c6e5a9c0 4723b120 46e2e440 46fa2240 c74014e0 c662e780 470c7f20 450f3200 c672eb80 c68915c0 c567ce00 46cade40 c6ded3c0 47003e20 461c8480 453e2200 463a0480 470efe20 c6b293c0 4702ef20] 0 true"}, {wholeNumbers(impl.MaxPeriod), impl.MaxPeriod, "475b9de0 00000000 [c75b9de0 c73c8fe0 c6bf47c0 466c9880 c6e5a9c0 4723b120 46e2e440 46fa2240 c74014e0 c662e780 470c7f20 450f3200 c672eb80 c68915c0 c567ce00 46cade40 c6ded3c0 47003e20 461c8480 453e2200 463a0480 470efe20 c6b293c0 4702ef20] 0 true"},
		{repeated(float32(0.1), impl.MaxLong), 7, "3dccccce 00000000 [b2000000 b2000000 b2000000 b2000000 b2000000 b2000000 b2000000] 0 true"}, {[]float32{fromBits(negZero)}, 1, "00000000 00000000 [00000000] 0 true"}, {[]float32{fromBits(negZero), fromBits(negZero)}, 2, "00000000 00000000 [80000000 80000000] 0 true"}, {[]float32{1, 0, fromBits(negZero)}, 1, "3f800000 bf800000 [00000000] 0 true"},
		// The season of a number that is the level is +0, also where it is told.
		{[]float32{fromBits(negZero), fromBits(negZero), fromBits(negZero), fromBits(negZero)}, 1, "00000000 00000000 [00000000] 0 true"}, {[]float32{1e8, 1, -1e8, 1}, 2, "4c3ebc20 cc3ebc20 [4c3ebc20 cc3ebc20] 0 true"},
		{[]float32{1, 2, 3}, 4, noState}, {[]float32{1, 2, 3}, 0, noState}, {[]float32{1, 2, 3}, -1, noState}, {[]float32{1, 2, 3}, math.MaxInt64, noState}, {[]float32{1, 2, 3}, math.MinInt64, noState},
		{wholeNumbers(impl.MaxLong), impl.MaxPeriod + 1, noState}, {wholeNumbers(impl.MaxPeriod - 1), impl.MaxPeriod, noState},
		// The level, the next mean, the slope, or the season is not finite, or only just is.
		{[]float32{3e38, 3e38}, 2, noState}, {[]float32{1, 1, 3e38, 3e38}, 2, noState}, {[]float32{1, 1, 3e38, 3e38}, 1, "3f800000 00000000 [00000000] 0 true"}, {[]float32{1, 1, 3e38}, 2, "3f800000 00000000 [00000000 00000000] 0 true"},
		{[]float32{-3e38, 3e38}, 1, noState}, {[]float32{3e38, -3e38}, 1, noState}, {[]float32{3e38, 3e38}, 1, "7f61b1e6 00000000 [00000000] 0 true"},
		{[]float32{-3.4e38, 3.4e38, 3.4e38}, 3, noState}, {[]float32{-1.2e38, 3.4e38}, 2, "7ea58275 00000000 [ff2d0864 7f2d0864] 0 true"}, {[]float32{3.4e38, -1.2e38, 3.4e38, -3.4e38}, 3, noState},
	}
	for _, row := range rows {
		s, ok := impl.StartState(row.list, row.period)
		expect(t, "start of "+shown(row.list, row.period), shown(s, ok), row.want)
	}
}

func TestGuessOf(t *testing.T) {
	minusZero := fromBits(negZero)
	rows := []struct {
		s    impl.State
		h    impl.Shares
		want string
	}{
		{stateOf(1, 2, 0, 0), sharesOf(0.5, 0.5, 0, 1), "40400000 true"}, {stateOf(1, 2, 0, 5), sharesOf(0, 0, 0, 0.5), "40e00000 true"}, {stateOf(1, 2, 1, 5, -7), sharesOf(1, 1, 1, 0), "c0c00000 true"}, {stateOf(1, 2, 0, 5, -7), sharesOf(1, 1, 1, 0), "40c00000 true"},
		{stateOf(0.1, 0.7, 2, 11, 12, 0.3), sharesOf(0.1, 0.2, 0.3, 0.9), "3f83d70a true"}, {stateOf(100.1, -0.7, 23, wholeNumbers(24)...), sharesOf(0.1, 0.2, 0.3, 0.3), "47af7872 true"},
		// The level and the slope come first, and the damped slope is rounded.
		{stateOf(1e8, -1e8, 0, 1), sharesOf(0, 0, 0, 1), "3f800000 true"}, {stateOf(1, 1e8, 0, -1e8), sharesOf(0, 0, 0, 1), "00000000 true"}, {stateOf(-0.1, 0.30000001, 0, 0), sharesOf(0, 0, 0, 0.33333334), "32000000 true"},
		{stateOf(minusZero, minusZero, 0, minusZero), sharesOf(0, 0, 0, 0), "80000000 true"}, {stateOf(minusZero, minusZero, 0, 0), sharesOf(0, 0, 0, 0), "00000000 true"}, {stateOf(minusZero, 0, 0, minusZero), sharesOf(0, 0, 0, minusZero), "80000000 true"},
		{stateOf(fromBits(1), fromBits(1), 0, fromBits(3)), sharesOf(0, 0, 0, 0.5), "00000004 true"}, {stateOf(fromBits(1), fromBits(3), 0, 0), sharesOf(0, 0, 0, 0.5), "00000003 true"},
		{stateOf(3e38, -3e38, 0, 3e38), sharesOf(0, 0, 0, 1), "7f61b1e6 true"},
		// A sum on the way is not finite, nor then the guess, or only just is.
		{stateOf(3e38, 3e38, 0, -3e38), sharesOf(0, 0, 0, 1), noNumber}, {stateOf(3e38, 3e38, 0, -3e38), sharesOf(0, 0, 0, 0.1), "7db48e50 true"}, {stateOf(3e38, 0, 0, 3e38), sharesOf(0, 0, 0, 1), noNumber},
	}
	for _, row := range rows {
		guess, ok := impl.GuessOf(row.s, row.h)
		expect(t, "guess of "+shown(row.s, row.h), shown(guess, ok), row.want)
	}
}

type stepRow struct {
	s    impl.State
	h    impl.Shares
	x    float32
	want string
}

func TestStepState(t *testing.T) {
	minusZero := fromBits(negZero)
	rows := []stepRow{
		{stateOf(1, 2, 0, 0), sharesOf(0.5, 0.5, 0, 1), 5, "40800000 40200000 [00000000] 0 40000000 true"}, {stateOf(1, 2, 0, 0), sharesOf(0.5, 0.5, 0.5, 1), 5, "40800000 40200000 [3f000000] 0 40000000 true"}, {stateOf(1, 2, 0, 1, -1), sharesOf(0.25, 0.5, 0.5, 0.5), 7, "40400000 3fc00000 [40200000 bf800000] 1 40800000 true"},
		{stateOf(1, 2, 1, 1, -1), sharesOf(0.25, 0.5, 0.5, 0.5), 7, "40600000 3fe00000 [3f800000 3fa00000] 0 40c00000 true"}, {stateOf(1, 2, 1, 1, -1, 4), sharesOf(0.25, 0.5, 0.5, 0.5), 7, "40600000 3fe00000 [3f800000 3fa00000 40800000] 2 40c00000 true"}, {stateOf(1, 2, 2, 1, -1, 4), sharesOf(0.25, 0.5, 0.5, 0.5), 7, "40100000 3f900000 [3f800000 bf800000 408c0000] 0 3f800000 true"},
		// With the shares 0 and 1.
		{stateOf(1, 2, 0, 3, 4), sharesOf(0, 0, 0, 0), 9, "3f800000 00000000 [40400000 40800000] 1 40a00000 true"}, {stateOf(1, 2, 0, 3, 4), sharesOf(0, 0, 0, 1), 9, "40400000 40000000 [40400000 40800000] 1 40400000 true"}, {stateOf(1, 2, 0, 3, 4), sharesOf(1, 0, 0, 0), 9, "40c00000 00000000 [40400000 40800000] 1 40a00000 true"}, {stateOf(1, 2, 0, 3, 4), sharesOf(1, 0, 1, 0), 9, "40c00000 00000000 [40400000 40800000] 1 40a00000 true"},
		{stateOf(1, 2, 0, 3, 4), sharesOf(0, 1, 0, 1), 9, "40400000 40000000 [40400000 40800000] 1 40400000 true"}, {stateOf(1, 2, 0, 3, 4), sharesOf(0, 0, 1, 1), 9, "40400000 40000000 [40c00000 40800000] 1 40400000 true"}, {stateOf(1, 2, 0, 3, 4), sharesOf(1, 1, 0, 1), 9, "40c00000 40a00000 [40400000 40800000] 1 40400000 true"}, {stateOf(1, 2, 0, 3, 4), sharesOf(1, 1, 1, 1), 9, "40c00000 40a00000 [40400000 40800000] 1 40400000 true"},
		{stateOf(1, 2, 0, 3, 4), sharesOf(minusZero, minusZero, minusZero, minusZero), 9, "3f800000 00000000 [40400000 40800000] 1 40a00000 true"}, {stateOf(minusZero, minusZero, 0, minusZero), sharesOf(0, 0, 0, 0), minusZero, "00000000 00000000 [00000000] 0 00000000 true"}, {stateOf(0, 0, 0, 0), sharesOf(minusZero, 1, 1, minusZero), minusZero, "00000000 00000000 [00000000] 0 80000000 true"},
		{stateOf(minusZero, minusZero, 0, minusZero, minusZero), sharesOf(minusZero, 0, minusZero, 1), 5, "80000000 80000000 [80000000 80000000] 1 40a00000 true"}, {stateOf(1, -2, 0, 3, 4), sharesOf(minusZero, minusZero, minusZero, minusZero), -9, "3f800000 00000000 [40400000 40800000] 1 c1500000 true"},
		// Each product, and each sum, is rounded.
		{stateOf(0.1, 0.7, 1, 11, 0.3, 12), sharesOf(0.1, 0.2, 0.3, 0.9), 3.3, "3f74fdf4 3f2ce704 [41300000 3f69b3d1 41400000] 2 401147ae true"}, {stateOf(100.1, -0.7, 0, 0.3, 0.2), sharesOf(0.7, 0.3, 0.9, 0.77), -12.7, "41a6257c c1c16a1b [c1f0bb55 3e4ccccd] 1 c2e11f3b true"}, {stateOf(-7.7, 13.13, 2, 5.5, 6.6, 7.7), sharesOf(0.33, 0.9, 0.6, 0.45), 1000.1, "43a32556 43969779 [40b00000 40d33333 43cbaeb7] 0 44788c41 true"},
		{stateOf(0.3, 0.1, 0, -0.1), sharesOf(0.9, 0.3, 0.7, 0.3), 0.7, "3f40c49b 3e20aa65 [bd896bb9] 0 3ef0a3d6 true"}, {stateOf(1e8, -1e8, 0, 1), sharesOf(0.5, 0.5, 0.5, 1), 3, "3f800000 ccbebc20 [3fc00000] 0 40000000 true"}, {stateOf(1e8, 3, 1, -1e8, -1e8), sharesOf(0.3, 0.5, 0.1, 1), 5, "4cbebc20 40700000 [ccbebc20 ccbebc20] 0 40a00000 true"},
		{stateOf(5, 0.1, 23, wholeNumbers(24)...), sharesOf(0.1, 0.1, 0.1, 0.98), 7000, "c601360d c44ed73c [00000000 45f87000 46f7f400 478b6200 46d19200 47bfa780 47a68800 47ac5780 45dc4800 4722e400 47b40e80 47649100 471ee300 47171300 474d2100 47a08680 46d86800 47adee00 47815f80 47678000 47850f80 47b54e00 47025400 47a0baed] 0 c7a19d0d true"}, {stateOf(5, 0.1, 22, wholeNumbers(24)...), sharesOf(0.1, 0.1, 0.1, 0.98), 7000, "c5247cfe c383cbe8 [00000000 45f87000 46f7f400 478b6200 46d19200 47bfa780 47a68800 47ac5780 45dc4800 4722e400 47b40e80 47649100 471ee300 47171300 474d2100 47a08680 46d86800 47adee00 47815f80 47678000 47850f80 47b54e00 46f21d90 47af4680] 23 c6ce0232 true"},
		{stateOf(fromBits(9), fromBits(5), 0, fromBits(3), fromBits(2)), sharesOf(0.5, 0.5, 0.5, 0.5), fromBits(100), "00000036 00000018 [00000019 00000002] 1 00000056 true"}, {stateOf(1e-38, 1e-38, 0, 1e-38), sharesOf(0.3, 0.1, 0.3, 0.3), -1e-38, "0021c18a 0015e30f [00216de9] 0 8133ab48 true"},
		{stateOf(1e19, -3e18, 1, 5, 2.5e19), sharesOf(0.1, 0.9, 0.4, 0.7), -7e18, "5e590c70 de9df4fc [40a00000 5f139aaa] 0 e00a6e52 true"}, {stateOf(3e38, 0, 0, 0), sharesOf(1, 0, 1, 1), 3e38, "7f61b1e6 00000000 [00000000] 0 00000000 true"},
		// The number, the guess, the miss, the level, the slope, or the season is not
		// finite, or only just is.
		{stateOf(1, 2, 0, 0), sharesOf(0.5, 0.5, 0.5, 1), fromBits(infBits), noStep}, {stateOf(1, 2, 0, 0), sharesOf(0.5, 0.5, 0.5, 1), fromBits(minusInf), noStep}, {stateOf(1, 2, 0, 0), sharesOf(0, 0, 0, 0), fromBits(nanBits), noStep},
		{stateOf(3e38, 3e38, 0, 0), sharesOf(0, 0, 0, 1), 1, noStep}, {stateOf(3e38, 3e38, 0, -3e38), sharesOf(0, 0, 0, 0), 1, "7f61b1e6 00000000 [ff61b1e6] 0 3f800000 true"}, {stateOf(3e38, 0, 0, 0), sharesOf(0, 0, 0, 0), -3e38, noStep},
		{stateOf(3e38, 0, 0, -3e38), sharesOf(1, 0, 0, 1), 3e38, noStep}, {stateOf(3e38, 0, 0, -3e38), sharesOf(0.1, 0, 0, 1), 3e38, "7f7843b0 00000000 [ff61b1e6] 0 7f61b1e6 true"}, {stateOf(-3e38, 3e38, 0, 0), sharesOf(1, 1, 0, 1), 3e38, noStep}, {stateOf(-3e38, 3e38, 0, 0), sharesOf(1, 0.1, 0, 1), 3e38, "7f61b1e6 7f7843b0 [00000000] 0 7f61b1e6 true"},
		{stateOf(-3e38, 0, 0, 3e38), sharesOf(0, 0, 1, 1), 3e38, noStep}, {stateOf(-3e38, 0, 0, 3e38), sharesOf(0.9, 0, 1, 1), 3e38, "fdb48e58 00000000 [7f7843b0] 0 7f61b1e6 true"},
	}
	for _, row := range rows {
		next, miss, ok := impl.StepState(row.s, row.h, row.x)
		expect(t, "step of "+shown(row.s, row.h, row.x), shown(next, miss, ok), row.want)
	}
}

type runRow struct {
	list []float32
	s    impl.State
	h    impl.Shares
	want string
}

func runRows() []runRow {
	return []runRow{
		{[]float32{3, 5}, stateOf(1, 2, 0, 0), sharesOf(0.5, 0.5, 0, 1), "40a00000 40000000 [00000000] 0 true"}, {[]float32{3, 6}, stateOf(1, 2, 0, 0), sharesOf(0.5, 0.5, 0, 1), "40b00000 40100000 [00000000] 0 true"}, {[]float32{4}, stateOf(1, 2, 0, 0), sharesOf(0.5, 0.5, 0, 1), "40600000 40100000 [00000000] 0 true"},
		{wavy(), stateOf(0.1, 0.7, 1, 11, 0.3, 12), sharesOf(0.1, 0.2, 0.3, 0.9), "424f9dc8 c01f6c5a [c237e103 c2265805 43051dcd] 1 true"}, {rough(), stateOf(2, -1, 4, 1, 2, 3, 4, 5), sharesOf(0.9, 0.1, 0.5, 0.5), "c0f55ba6 bf33ba60 [3ff7aeaa 40171140 40281354 4068ee1a 407dccf5] 1 true"}, {rough(), stateOf(2, -1, 4, 1, 2, 3, 4, 5), sharesOf(0, 1, 1, 1), "c1200000 bf800000 [40800000 41c80000 40c9999a 41580000 4121999a] 1 true"},
		{rough(), stateOf(2, -1, 4, 1, 2, 3, 4, 5), sharesOf(1, 1, 1, 0), "c0e00000 c0466666 [3f800000 40000000 40400000 40800000 40a00000] 1 true"}, {tiny(), stateOf(0, fromBits(7), 0, 0, fromBits(negZero)), sharesOf(0.3, 0.3, 0.3, 0.3), "002785ca 800209a5 [80120278 0029fb61] 1 true"}, {steep(), stateOf(1e19, 0, 0, 0), sharesOf(0.3, 0.3, 0.3, 0.3), "5e356eb4 dc9d232a [de6cff3a] 0 true"},
		{wholeNumbers(impl.MaxLong), stateOf(5, 1, 20, wholeNumbers(24)...), sharesOf(0.2, 0.1, 0.4, 0.95), "453da33e 444b108a [470083dc 4757506b 47857790 4725af06 47232135 473c567d 47649814 476a335e 4739f577 471c77b2 477c2139 474d2771 473446d5 474053f0 478d3dbc 478ea67c 4711c93d 478a5e14 476294c6 47892bf1 477a4f7e 47298ca5 4798a326 47a594b7] 20 true"},
		// The state behind the first, or the last, number is not valid.
		{[]float32{-3e38, 1}, stateOf(3e38, 0, 0, 0), sharesOf(0, 0, 0, 1), noState}, {[]float32{3e38, 3e38, -3e38}, stateOf(3e38, 0, 0, 0), sharesOf(0, 0, 0, 1), noState}, {[]float32{3e38, 3e38}, stateOf(3e38, 0, 1, -3e38, 0), sharesOf(0.5, 0, 0, 1), noState},
		{[]float32{3e38}, stateOf(3e38, 0, 0, -3e38), sharesOf(1, 0, 0, 1), noState},
	}
}

func TestRunStates(t *testing.T) {
	for _, row := range runRows() {
		s, ok := impl.RunStates(row.list, row.s, row.h)
		expect(t, "run of "+shown(row.list, row.s, row.h), shown(s, ok), row.want)
	}
}

func TestGuessesOf(t *testing.T) {
	rows := []runRow{
		{[]float32{3, 5}, stateOf(1, 2, 0, 0), sharesOf(0.5, 0.5, 0, 1), "[40400000 40a00000] true"}, {[]float32{3, 6, 1}, stateOf(1, 2, 0, 0), sharesOf(0.5, 0.5, 0, 1), "[40400000 40a00000 40f80000] true"}, {[]float32{4}, stateOf(1, 2, 0, 0), sharesOf(0.5, 0.5, 0, 1), "[40400000] true"},
		{wavy(), stateOf(0.1, 0.7, 1, 11, 0.3, 12), sharesOf(0.1, 0.2, 0.3, 0.9), "[3f83d70a 4158a900 4132b2b0 3f68d300 40f7ff7e 42ff2080 42e340d8 43c1b834 42184c67 4234ab10 436ff5e0 410d5114] true"}, {rough(), stateOf(2, -1, 4, 1, 2, 3, 4, 5), sharesOf(0.9, 0.1, 0.5, 0.5), "[40d00000 c05ae146 40ece69b bfccf5cc 41410ef1 3fcb096c c132e946 3f8b4d48 41a3056f 3f273820 40b9a268 bf25fda8] true"},
		{tiny(), stateOf(0, fromBits(7), 0, 0, fromBits(negZero)), sharesOf(0.3, 0.3, 0.3, 0.3), "[00000002 00000003 0029db25 003815fd 002be770] true"},
	}
	for _, row := range rows {
		guesses, ok := impl.GuessesOf(row.list, row.s, row.h)
		expect(t, "guesses of "+shown(row.list, row.s, row.h), shown(guesses, ok), row.want)
	}
}

func TestMissesOf(t *testing.T) {
	rows := []runRow{
		{[]float32{3, 6}, stateOf(1, 2, 0, 0), sharesOf(0.5, 0.5, 0, 1), "[00000000 3f800000] true"}, {[]float32{3, 6, 1}, stateOf(1, 2, 0, 0), sharesOf(0.5, 0.5, 0, 1), "[00000000 3f800000 c0d80000] true"}, {[]float32{4}, stateOf(1, 2, 0, 0), sharesOf(0.5, 0.5, 0, 1), "[3f800000] true"},
		{wavy(), stateOf(0.1, 0.7, 1, 11, 0.3, 12), sharesOf(0.1, 0.2, 0.3, 0.9), "[40047ae1 c181ee1a c03acac0 bf1c0633 44781001 c32eac69 c2d840d8 c3c1af3e c1cc98ce c241de43 c30c0f7a c0faa228] true"}, {rough(), stateOf(2, -1, 4, 1, 2, 3, 4, 5), sharesOf(0.9, 0.1, 0.5, 0.5), "[c0c00000 412ab852 c12b401a 41599eba c140e5fb c11fc794 41561c79 418f4b2c c1a89f09 409b18fc c0966f35 c0ab404b] true"},
		{tiny(), stateOf(0, fromBits(7), 0, 0, fromBits(negZero)), sharesOf(0.3, 0.3, 0.3, 0.3), "[80000001 007ffffc 8029db28 0047ea04 802be772] true"},
	}
	for _, row := range rows {
		misses, ok := impl.MissesOf(row.list, row.s, row.h)
		expect(t, "misses of "+shown(row.list, row.s, row.h), shown(misses, ok), row.want)
	}
}

// expectRun holds the runs through a series against its single steps.
func expectRun(t *testing.T, list []float32, s impl.State, h impl.Shares) {
	t.Helper()
	state, all := s, true
	var guesses, misses []float32
	for _, x := range list {
		guess, _ := impl.GuessOf(state, h)
		next, miss, ok := impl.StepState(state, h, x)
		all = all && ok
		state, guesses, misses = next, append(guesses, guess), append(misses, miss)
	}
	if !all {
		state, guesses, misses = impl.State{}, nil, nil
	}
	what := shown(list, s, h)
	gotState, okState := impl.RunStates(list, s, h)
	expect(t, "run of "+what, shown(gotState, okState), shown(state, all))
	gotGuesses, okGuesses := impl.GuessesOf(list, s, h)
	expect(t, "guesses of "+what, shown(gotGuesses, okGuesses), shown(guesses, all))
	gotMisses, okMisses := impl.MissesOf(list, s, h)
	expect(t, "misses of "+what, shown(gotMisses, okMisses), shown(misses, all))
}

func TestRunsAreSteps(t *testing.T) {
	for _, row := range runRows() {
		expectRun(t, row.list, row.s, row.h)
	}
	for long := 1; long <= impl.MaxLong; long += 5 {
		list := wholeNumbers(long)
		for period := int64(1); period <= impl.MaxPeriod && period <= int64(long); period++ {
			s, _ := impl.StartState(list, period)
			expectRun(t, list, s, sharesOf(0.3, 0.1, 0.4, 0.97))
			expectRun(t, list, s, sharesOf(0, 1, fromBits(negZero), 1))
		}
	}
}
