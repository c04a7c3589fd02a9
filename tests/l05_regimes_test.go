package tests

import (
	"slices"
	"testing"

	"loop.example/g01375/impl"
)

func regimesOf(means, spreads, starts, steps []float32) impl.Regimes {
	return impl.Regimes{Means: means, Spreads: spreads, Starts: starts, Steps: steps}
}

func oneRegime() impl.Regimes {
	return regimesOf([]float32{0}, []float32{1}, []float32{1}, []float32{1})
}

func twoRegimes() impl.Regimes {
	return regimesOf([]float32{0, 5}, []float32{1, 4}, []float32{0.5, 0.5}, []float32{0.9, 0.1, 0.2, 0.8})
}

func threeRegimes() impl.Regimes {
	return regimesOf([]float32{-1, 2.5, 7}, []float32{0.5, 2, 8}, []float32{0.2, 0.3, 0.5}, []float32{0.7, 0.2, 0.1, 0.15, 0.8, 0.05, 0.25, 0.25, 0.5})
}

// copied returns regimes that share no memory with others.
func copied(r impl.Regimes) impl.Regimes {
	return regimesOf(slices.Clone(r.Means), slices.Clone(r.Spreads), slices.Clone(r.Starts), slices.Clone(r.Steps))
}

func partsOf(r *impl.Regimes) []*[]float32 {
	return []*[]float32{&r.Means, &r.Spreads, &r.Starts, &r.Steps}
}

// evenRegimes returns regimes of equal chances, also of more states than there
// may be.
func evenRegimes(states int) impl.Regimes {
	even := repeated(1/float32(states), states)
	return regimesOf(repeated(float32(1), states), repeated(float32(1), states), even, slices.Repeat(even, states))
}

// changedRegimes are those with one number or part that is changed.
func changedRegimes(r impl.Regimes, part int, x float32) []impl.Regimes {
	var changed []impl.Regimes
	for place := range *partsOf(&r)[part] {
		other := copied(r)
		(*partsOf(&other)[part])[place] = x
		changed = append(changed, other)
	}
	return changed
}

func wrongRegimes() []impl.Regimes {
	wrong := []impl.Regimes{{}, evenRegimes(impl.MaxStates + 1), evenRegimes(9)}
	for _, r := range []impl.Regimes{oneRegime(), twoRegimes(), threeRegimes()} {
		for part := range 4 {
			shorter, longer, none := copied(r), copied(r), copied(r)
			list := *partsOf(&r)[part]
			*partsOf(&shorter)[part] = slices.Clone(list[1:])
			*partsOf(&longer)[part] = append(slices.Clone(list), list[0])
			*partsOf(&none)[part] = nil
			wrong = append(wrong, shorter, longer, none)
			for _, x := range wrongNumbers() {
				wrong = append(wrong, changedRegimes(r, part, x)...)
			}
		}
		for _, x := range []float32{0, fromBits(negZero), -1, -fromBits(1)} {
			wrong = append(wrong, changedRegimes(r, 1, x)...)
		}
		for _, x := range []float32{-fromBits(1), -0.0005, 1.0005, fromBits(0x3f800001), 2, -1} {
			wrong = append(append(wrong, changedRegimes(r, 2, x)...), changedRegimes(r, 3, x)...)
		}
	}
	// Chances that are no chances, though their sums are 1.
	wrong = append(wrong, regimesOf([]float32{0, 5}, []float32{1, 4}, []float32{1.25, -0.25}, []float32{0.9, 0.1, 0.2, 0.8}),
		regimesOf([]float32{0, 5}, []float32{1, 4}, []float32{0.5, 0.5}, []float32{0.9, 0.1, -0.25, 1.25}))
	for _, sum := range sumsBeyond() {
		wrong = append(wrong, withSums(sum)...)
	}
	return wrong
}

// sumsWithin and sumsBeyond differ from 1 by 0.001 and by just more, nearly.
func sumsWithin() []float32 { return []float32{fromBits(0x3f7fbe77), fromBits(0x3f8020c4), 1} }

func sumsBeyond() []float32 { return []float32{fromBits(0x3f7fbe76), fromBits(0x3f8020c5)} }

// chancesWith returns two chances with a sum.
func chancesWith(sum float32) []float32 { return []float32{0.5, sum - 0.5} }

func withSums(sum float32) []impl.Regimes {
	two := twoRegimes()
	starts, first, last := copied(two), copied(two), copied(two)
	starts.Starts = chancesWith(sum)
	copy(first.Steps, chancesWith(sum))
	copy(last.Steps[2:], chancesWith(sum))
	list := []impl.Regimes{starts, first, last}
	if sum <= 1 {
		list = append(list, regimesOf([]float32{0}, []float32{1}, []float32{sum}, []float32{sum}))
	}
	return list
}

func validRegimes() []impl.Regimes {
	minusZero := fromBits(negZero)
	list := []impl.Regimes{oneRegime(), twoRegimes(), threeRegimes(), evenRegimes(2), evenRegimes(impl.MaxStates),
		regimesOf([]float32{-3e38}, []float32{fromBits(1)}, []float32{1}, []float32{1}),
		regimesOf([]float32{0, minusZero}, []float32{1, 3e38}, []float32{0, 1}, []float32{1, minusZero, minusZero, 1})}
	for _, sum := range sumsWithin() {
		list = append(list, withSums(sum)...)
	}
	return list
}

func TestValidRegimes(t *testing.T) {
	for _, r := range validRegimes() {
		expect(t, "valid "+shown(r), shown(impl.ValidRegimes(r)), "true")
	}
	for _, wrong := range wrongRegimes() {
		expect(t, "valid "+shown(wrong), shown(impl.ValidRegimes(wrong)), "false")
	}
}

func TestSameRegimes(t *testing.T) {
	all := append(validRegimes(), wrongRegimes()...)
	for _, r := range all {
		expect(t, "the same "+shown(r), shown(impl.SameRegimes(r, r), impl.SameRegimes(r, copied(r))), "true true")
		for part := range 4 {
			for _, x := range []float32{77, fromBits(negZero), fromBits(nanBits)} {
				for _, other := range changedRegimes(r, part, x) {
					want := shown(shown(r) == shown(other), shown(r) == shown(other))
					expect(t, "the same "+shown(r, other), shown(impl.SameRegimes(r, other), impl.SameRegimes(other, r)), want)
				}
			}
			longer := copied(r)
			*partsOf(&longer)[part] = append(*partsOf(&longer)[part], 1)
			expect(t, "the same "+shown(r, longer), shown(impl.SameRegimes(r, longer), impl.SameRegimes(longer, r)), "false false")
		}
	}
	empty := regimesOf([]float32{}, []float32{}, []float32{}, []float32{})
	expect(t, "the same nothing", shown(impl.SameRegimes(empty, impl.Regimes{})), "true")
	nan, other := fromBits(nanBits), fromBits(0xffc00001)
	expect(t, "the same without numbers", shown(impl.SameRegimes(regimesOf([]float32{nan}, []float32{1}, []float32{other}, nil),
		regimesOf([]float32{other}, []float32{1}, []float32{nan}, nil))), "true")
	expect(t, "the same in other parts", shown(impl.SameRegimes(regimesOf([]float32{1}, nil, nil, nil), regimesOf(nil, []float32{1}, nil, nil))), "false")
}

type regimeRow struct {
	r    impl.Regimes
	list []float32
	want string
}

func TestRegimeShares(t *testing.T) {
	rows := []regimeRow{
		{oneRegime(), []float32{0, 0}, "[3f800000 3f800000] 00000000 true"},
		{oneRegime(), []float32{1, -2, 0.3}, "[3f800000 3f800000 3f800000] c022e148 true"},
		{twoRegimes(), []float32{0}, "[3f7a7f39 3cb018db] bf2be1f4 true"},
		{twoRegimes(), []float32{0, 5, 2.5}, "[3f7a7f39 3cb018db 38707390 3f7ffc3e 3d3b962a 3f74469d] c0a5af24 true"},
		{twoRegimes(), []float32{2, 2, 2, 2, 2}, "[3ee8c96a 3f0b9b4b 3ef21769 3f06f44b 3ef89bf9 3f03b204 3efd3163 3f01674d 3f003673 3eff9319] c118ca22 true"},
		{threeRegimes(), []float32{0.5, 1, 7, -2, 3.3, 4.4, 6.1}, "[3e7d6ca2 3f25d9d2 3dd65828 3cfaaa46 3f7401d2 3c851ba7 12f988bb 3e11f761 3f5b8228 3f7afef4 3c4082bf 3bff8068 338b434a 3f63e85d 3de0bd12 2a6c46cb 3f66ed95 3dc89359 1c2738a8 3eca5b9a 3f1ad232] c17a873d true"},
		{threeRegimes(), []float32{3.1, -2.7, 8.25, 0.3, 5.5, 0.07, 12.5, -3.3, 1}, "[3367f1f0 3f3d4a81 3e856afa 3f739d93 3d17a036 3c3a1a68 042a8d46 3aa11402 3f7faf77 3f01a94b 3ed2364f 3da9dc69 2295b43e 3efc23ea 3f01ee0b 3f00eeb8 3ef02bf0 3cdf69f7 00000000 308b97cd 3f800000 3f5e0b85 3c9ce0bf 3de86bb3 3e1ac295 3f4cb774 3d497e60] c1e99e6d true"},
		{threeRegimes(), repeated(float32(2), impl.MaxLong), "[391ad8f6 3f57d490 3e20870b 387b322f 3f7b3ffa 3c97831f 38522e3e 3f7de533 3c05e0eb 384f6637 3f7e1314 3bf4d6f0 384f364f 3f7e162b 3bf34c37 384f3318 3f7e1661 3bf331ad 384f32df 3f7e1663 3bf32fe3 384f32de 3f7e1665 3bf32fc7 384f32dd 3f7e1665 3bf32fc3 384f32dd 3f7e1665 3bf32fc3 384f32dd 3f7e1665 3bf32fc3 384f32dd 3f7e1665 3bf32fc3 384f32dd 3f7e1665 3bf32fc3 384f32dd 3f7e1665 3bf32fc3 384f32dd 3f7e1665 3bf32fc3 384f32dd 3f7e1665 3bf32fc3 384f32dd 3f7e1665 3bf32fc3 384f32dd 3f7e1665 3bf32fc3 384f32dd 3f7e1665 3bf32fc3 384f32dd 3f7e1665 3bf32fc3 384f32dd 3f7e1665 3bf32fc3 384f32dd 3f7e1665 3bf32fc3 384f32dd 3f7e1665 3bf32fc3 384f32dd 3f7e1665 3bf32fc3 384f32dd 3f7e1665 3bf32fc3 384f32dd 3f7e1665 3bf32fc3 384f32dd 3f7e1665 3bf32fc3 384f32dd 3f7e1665 3bf32fc3 384f32dd 3f7e1665 3bf32fc3 384f32dd 3f7e1665 3bf32fc3 384f32dd 3f7e1665 3bf32fc3 384f32dd 3f7e1665 3bf32fc3 384f32dd 3f7e1665 3bf32fc3 384f32dd 3f7e1665 3bf32fc3 384f32dd 3f7e1665 3bf32fc3 384f32dd 3f7e1665 3bf32fc3 384f32dd 3f7e1665 3bf32fc3 384f32dd 3f7e1665 3bf32fc3 384f32dd 3f7e1665 3bf32fc3 384f32dd 3f7e1665 3bf32fc3 384f32dd 3f7e1665 3bf32fc3 384f32dd 3f7e1665 3bf32fc3 384f32dd 3f7e1665 3bf32fc3 384f32dd 3f7e1665 3bf32fc3 384f32dd 3f7e1665 3bf32fc3 384f32dd 3f7e1665 3bf32fc3 384f32dd 3f7e1665 3bf32fc3 384f32dd 3f7e1665 3bf32fc3 384f32dd 3f7e1665 3bf32fc3 384f32dd 3f7e1665 3bf32fc3 384f32dd 3f7e1665 3bf32fc3 384f32dd 3f7e1665 3bf32fc3 384f32dd 3f7e1665 3bf32fc3 384f32dd 3f7e1665 3bf32fc3 384f32dd 3f7e1665 3bf32fc3 384f32dd 3f7e1665 3bf32fc3 384f32dd 3f7e1665 3bf32fc3 384f32dd 3f7e1665 3bf32fc3 384f32dd 3f7e1665 3bf32fc3 384f32dd 3f7e1665 3bf32fc3 384f32dd 3f7e1665 3bf32fc3 384f32dd 3f7e1665 3bf32fc3 384f32dd 3f7e1665 3bf32fc3 384f32dd 3f7e1665 3bf32fc3 384f32dd 3f7e1665 3bf32fc3 384f32dd 3f7e1665 3bf32fc3 384f32dd 3f7e1665 3bf32fc3 384f32dd 3f7e1665 3bf32fc3 384f32dd 3f7e1665 3bf32fc3 384f32dd 3f7e1665 3bf32fc3 384f32dd 3f7e1665 3bf32fc3 384f32dd 3f7e1665 3bf32fc3 384f32dd 3f7e1665 3bf32fc3 384f32dd 3f7e1665 3bf32fc3 384f32dd 3f7e1665 3bf32fc3 384f32dd 3f7e1665 3bf32fc3 384f32dd 3f7e1665 3bf32fc3 384f32dd 3f7e1665 3bf32fc3 384f32dd 3f7e1665 3bf32fc3 384f32dd 3f7e1665 3bf32fc3 384f32dd 3f7e1665 3bf32fc3 384f32dd 3f7e1665 3bf32fc3 384f32dd 3f7e1665 3bf32fc3 384f32dd 3f7e1665 3bf32fc3 384f32dd 3f7e1665 3bf32fc3 384f32dd 3f7e1665 3bf32fc3 384f32dd 3f7e1665 3bf32fc3 384f32dd 3f7e1665 3bf32fc3 384f32dd 3f7e1665 3bf32fc3 384f32dd 3f7e1665 3bf32fc3 384f32dd 3f7e1665 3bf32fc3 384f32dd 3f7e1665 3bf32fc3 384f32dd 3f7e1665 3bf32fc3 384f32dd 3f7e1665 3bf32fc3 384f32dd 3f7e1665 3bf32fc3 384f32dd 3f7e1665 3bf32fc3] c2758a96 true"},
		{threeRegimes(), repeated(float32(2), impl.MaxLong+1), "[] 00000000 false"},
		{regimesOf([]float32{0, 10, 20}, []float32{9, 90, 900}, []float32{0.3, 0.3, 0.4}, []float32{0.1, 0.2, 0.7, 0.3, 0.3, 0.4, 0.333, 0.333, 0.3335}), rough(), "[3f445e82 3e188d06 3dabf1e1 3d76d1ed 3f034949 3eda9331 3f376771 3e222edd 3e00335d 39d8c7c8 3f0d0dc6 3ee5ae43 3f48a4a3 3e11cc44 3d974269 3d5b70d9 3e4d03a1 3f3f0809 3f333db1 3e5731ee 3db7ae9d 314b5d9c 3ee007f5 3f0ffc06 3f4a7f75 3e0b565d 3d955796 3e3c1783 3edcee73 3ec505ca 3f3b060f 3e2dca0c 3dcc3b72 3e869d25 3e5e3d85 3f05220d] c204cfcb true"},
		// Chances of 0 and 1.
		{regimesOf([]float32{0, 1}, []float32{1, 1}, []float32{1, 0}, []float32{0, 1, 1, 0}), []float32{0, 1, 0.5, 0}, "[3f800000 00000000 00000000 3f800000 3f800000 00000000 00000000 3f800000] bf200000 true"},
		{regimesOf([]float32{0, 1}, []float32{1, 1}, []float32{0, 1}, []float32{1, 0, 0, 1}), []float32{0, 1, 0.5, 0}, "[00000000 3f800000 00000000 3f800000 00000000 3f800000 00000000 3f800000] bf900000 true"},
		{regimesOf([]float32{0, 1, 2}, []float32{1, 1, 1}, []float32{0, 0, 1}, []float32{0, 1, 0, 0, 0, 1, 1, 0, 0}), []float32{0, 1, 2, 3}, "[00000000 00000000 3f800000 3f800000 00000000 00000000 00000000 3f800000 00000000 00000000 00000000 3f800000] c0600000 true"},
		// Weights that all are 0, at the first number, at a later one, or for one state
		// alone.
		{oneRegime(), []float32{30}, "[] 00000000 false"},
		{oneRegime(), []float32{0, 30}, "[] 00000000 false"},
		{twoRegimes(), []float32{0, 30}, "[3f7a7f39 3cb018db 00000000 3f800000] c2a34dd0 true"},
		{twoRegimes(), []float32{-1, -50}, "[] 00000000 false"},
		{twoRegimes(), []float32{-50, 1}, "[] 00000000 false"},
		{regimesOf([]float32{0, 100}, []float32{1, 1}, []float32{1, 0}, []float32{0, 1, 0, 1}), []float32{0, 0}, "[] 00000000 false"},
		{regimesOf([]float32{0, 100}, []float32{1, 1}, []float32{1, 0}, []float32{0, 1, 0, 1}), []float32{0, 100}, "[3f800000 00000000 00000000 3f800000] 00000000 true"},
		{regimesOf([]float32{0, 100}, []float32{1, 1}, []float32{0, 1}, []float32{0, 1, 0, 1}), []float32{0, 0}, "[] 00000000 false"},
		// Just within and beyond what a weight can show, and spreads of all sizes.
		{oneRegime(), []float32{14.4}, "[3f800000] c2ce8ed0 true"},
		{oneRegime(), []float32{14.5}, "[] 00000000 false"},
		{regimesOf([]float32{1}, []float32{fromBits(1)}, []float32{1}, []float32{1}), []float32{1, 1, 1}, "[3f800000 3f800000 3f800000] 431aeb1c true"},
		{regimesOf([]float32{1, 1}, []float32{1e-40, 1e-30}, []float32{0.5, 0.5}, []float32{0.5, 0.5, 0.5, 0.5}), []float32{1, 1}, "[3f7fff58 3727c521 3f7fff58 3727c521] 42b56f2c true"},
		{regimesOf([]float32{1}, []float32{3e38}, []float32{1}, []float32{1}), []float32{5, 1e19}, "[3f800000 3f800000] c2b13196 true"},
		{regimesOf([]float32{1}, []float32{1e38}, []float32{1}, []float32{1}), []float32{5, 1e19}, "[3f800000 3f800000] c2afff18 true"},
		// A square, or the doubled spread, is not finite, or both are.
		{regimesOf([]float32{0}, []float32{1e38}, []float32{1}, []float32{1}), []float32{2e19}, "[] 00000000 false"},
		{regimesOf([]float32{0, 1e20}, []float32{1e38, 1}, []float32{0.5, 0.5}, []float32{0.5, 0.5, 0.5, 0.5}), []float32{1e20, 1e20}, "[00000000 3f800000 00000000 3f800000] bfb17218 true"},
		{regimesOf([]float32{0}, []float32{3e38}, []float32{1}, []float32{1}), []float32{2e19}, "[] 00000000 false"},
		{regimesOf([]float32{0, 1e20}, []float32{3e38, 1}, []float32{0.5, 0.5}, []float32{0.5, 0.5, 0.5, 0.5}), []float32{1e20, 1e20}, "[] 00000000 false"},
		{regimesOf([]float32{-3e38, 3e38}, []float32{1, 1}, []float32{0.5, 0.5}, []float32{0.5, 0.5, 0.5, 0.5}), []float32{3e38, -3e38}, "[00000000 3f800000 3f800000 00000000] bfb17218 true"},
	}
	for _, wrong := range wrongRegimes() {
		rows = append(rows, regimeRow{wrong, []float32{0}, noTerms}, regimeRow{wrong, []float32{1, 2}, noTerms})
	}
	for _, wrong := range wrongSeries() {
		rows = append(rows, regimeRow{oneRegime(), wrong, noTerms}, regimeRow{threeRegimes(), wrong, noTerms})
	}
	for _, row := range rows {
		shares, sum, ok := impl.RegimeShares(row.r, row.list)
		expect(t, "regime shares of "+shown(row.r, row.list), shown(shares, sum, ok), row.want)
	}
}

func TestRegimeWay(t *testing.T) {
	rows := []regimeRow{
		{oneRegime(), []float32{0, 5}, "[0 0] true"},
		{twoRegimes(), []float32{0}, "[0] true"},
		{twoRegimes(), []float32{5}, "[1] true"},
		{twoRegimes(), []float32{0, 5, 2.5}, "[0 1 1] true"},
		{twoRegimes(), []float32{0, 0, 5, 5, 4, 6, 0, 0.3}, "[0 0 1 1 1 1 0 0] true"},
		{twoRegimes(), []float32{2, 2, 2, 2, 2}, "[1 1 1 1 1] true"},
		{threeRegimes(), []float32{0.5, 1, 7, -2, 3.3, 4.4, 6.1}, "[1 1 2 0 1 1 1] true"},
		{threeRegimes(), []float32{3.1, -2.7, 8.25, 0.3, 5.5, 0.07, 12.5, -3.3, 1}, "[1 0 2 0 2 0 2 0 1] true"},
		{threeRegimes(), repeated(float32(2), impl.MaxLong), "[1 1 1 1 1 1 1 1 1 1 1 1 1 1 1 1 1 1 1 1 1 1 1 1 1 1 1 1 1 1 1 1 1 1 1 1 1 1 1 1 1 1 1 1 1 1 1 1 1 1 1 1 1 1 1 1 1 1 1 1 1 1 1 1 1 1 1 1 1 1 1 1 1 1 1 1 1 1 1 1 1 1 1 1 1 1 1 1 1 1 1 1 1 1 1 1] true"},
		{threeRegimes(), repeated(float32(2), impl.MaxLong+1), "[] false"},
		{regimesOf([]float32{0, 10, 20}, []float32{9, 90, 900}, []float32{0.3, 0.3, 0.4}, []float32{0.1, 0.2, 0.7, 0.3, 0.3, 0.4, 0.333, 0.333, 0.3335}), rough(), "[0 2 0 2 0 2 0 2 0 2 0 2] true"},
		// What comes later changes what was before.
		{regimesOf([]float32{0, 0, 9}, []float32{1, 1, 1}, []float32{0.6, 0.4, 0}, []float32{0.5, 0.5, 0, 0, 0, 1, 0, 0, 1}), []float32{0, 9}, "[1 2] true"},
		{regimesOf([]float32{0, 0, 9}, []float32{1, 1, 1}, []float32{0.6, 0.4, 0}, []float32{0.5, 0.5, 0, 0, 0, 1, 0, 0, 1}), []float32{0, 0, 9}, "[0 1 2] true"},
		{regimesOf([]float32{0, 0, 9}, []float32{1, 1, 1}, []float32{0.6, 0.4, 0}, []float32{0.5, 0.5, 0, 0, 0, 1, 0, 0, 1}), []float32{0, 0}, "[0 0] true"},
		// Several ways are likeliest: the first states are taken, from the last one back.
		{regimesOf([]float32{0, 0}, []float32{1, 1}, []float32{0.5, 0.5}, []float32{0.5, 0.5, 0.5, 0.5}), []float32{0, 1, 2}, "[0 0 0] true"},
		{regimesOf([]float32{0, 0}, []float32{1, 1}, []float32{0.5, 0.5}, []float32{0, 1, 1, 0}), []float32{0, 1, 2}, "[0 1 0] true"},
		{regimesOf([]float32{0, 0}, []float32{1, 1}, []float32{0.5, 0.5}, []float32{0, 1, 1, 0}), []float32{0, 1}, "[1 0] true"},
		{regimesOf([]float32{0, 0, 0}, []float32{1, 1, 1}, []float32{0, 0.5, 0.5}, []float32{0, 0.5, 0.5, 0, 0.5, 0.5, 0, 0.5, 0.5}), []float32{0, 1, 2}, "[1 1 1] true"},
		{regimesOf([]float32{0, 0, 0}, []float32{1, 1, 1}, []float32{0.5, 0, 0.5}, []float32{0, 0, 1, 1, 0, 0, 0, 0, 1}), []float32{0, 1, 2}, "[0 2 2] true"},
		{regimesOf([]float32{0, 0, 0}, []float32{1, 1, 1}, []float32{0.25, 0.5, 0.25}, []float32{0.25, 0.25, 0.5, 0.5, 0.25, 0.25, 0.5, 0.25, 0.25}), []float32{0, 1, 2, 3}, "[1 0 2 0] true"},
		// Chances of 0 and 1.
		{regimesOf([]float32{0, 1}, []float32{1, 1}, []float32{1, 0}, []float32{0, 1, 1, 0}), []float32{0, 0, 0, 0}, "[0 1 0 1] true"},
		{regimesOf([]float32{0, 1, 2}, []float32{1, 1, 1}, []float32{0, 0, 1}, []float32{0, 1, 0, 0, 0, 1, 1, 0, 0}), []float32{0, 1, 2, 3}, "[2 0 1 2] true"},
		// Weights that all are 0, at the first number, at a later one, or for one state
		// alone.
		{oneRegime(), []float32{30}, "[] false"},
		{oneRegime(), []float32{0, 30}, "[] false"},
		{oneRegime(), []float32{0, 30, 0}, "[] false"},
		{twoRegimes(), []float32{-50, 1}, "[] false"},
		{regimesOf([]float32{0, 100}, []float32{1, 1}, []float32{1, 0}, []float32{0, 1, 0, 1}), []float32{0, 0}, "[] false"},
		{regimesOf([]float32{0, 100}, []float32{1, 1}, []float32{1, 0}, []float32{0, 1, 0, 1}), []float32{0, 100}, "[0 1] true"},
		{regimesOf([]float32{0, 100}, []float32{1, 1}, []float32{0, 1}, []float32{0, 1, 0, 1}), []float32{0, 0}, "[] false"},
		{oneRegime(), []float32{14.4}, "[0] true"},
		{oneRegime(), []float32{14.5}, "[] false"},
		// At the first number, nothing is divided: what is very little becomes nothing.
		{oneRegime(), []float32{14, 3}, "[0 0] true"},
		{oneRegime(), []float32{0, 14, 3}, "[0 0 0] true"},
		{oneRegime(), []float32{14, 5}, "[] false"},
		{oneRegime(), []float32{3, 14, 14, 14}, "[0 0 0 0] true"},
		// A product of weights becomes too great, behind which nothing is told.
		{regimesOf([]float32{1}, []float32{1e-38}, []float32{1}, []float32{1}), []float32{1, 1, 1}, "[0 0 0] true"},
		{regimesOf([]float32{1}, []float32{1e-40}, []float32{1}, []float32{1}), []float32{1, 1, 1}, "[] false"},
		{regimesOf([]float32{1, 0}, []float32{1e-40, 1}, []float32{0.5, 0.5}, []float32{0.5, 0.5, 0.5, 0.5}), []float32{1, 1, 1}, "[] false"},
		{regimesOf([]float32{0, 1}, []float32{1, 1e-40}, []float32{0.5, 0.5}, []float32{0.5, 0.5, 0.5, 0.5}), []float32{1, 1, 1}, "[] false"},
		{regimesOf([]float32{0, 1}, []float32{1, 1e-40}, []float32{0.5, 0.5}, []float32{0.5, 0.5, 0.5, 0.5}), []float32{1, 1}, "[1 1] true"},
		{regimesOf([]float32{-3e38, 3e38}, []float32{1, 1}, []float32{0.5, 0.5}, []float32{0.5, 0.5, 0.5, 0.5}), []float32{3e38, -3e38}, "[1 0] true"},
		{regimesOf([]float32{0, 1e20}, []float32{1e38, 1}, []float32{0.5, 0.5}, []float32{0.5, 0.5, 0.5, 0.5}), []float32{1e20, 1e20}, "[1 1] true"},
		// A weight is no number, and so there is no greatest one.
		{regimesOf([]float32{0, 1e20}, []float32{3e38, 1}, []float32{0.5, 0.5}, []float32{0.5, 0.5, 0.5, 0.5}), []float32{1e20, 1e20}, "[] false"},
		{regimesOf([]float32{1e20, 0}, []float32{1, 3e38}, []float32{0.5, 0.5}, []float32{0.5, 0.5, 0.5, 0.5}), []float32{1e20, 1e20}, "[] false"},
	}
	for _, wrong := range wrongRegimes() {
		rows = append(rows, regimeRow{wrong, []float32{0}, noNumbers}, regimeRow{wrong, []float32{1, 2}, noNumbers})
	}
	for _, wrong := range wrongSeries() {
		rows = append(rows, regimeRow{oneRegime(), wrong, noNumbers}, regimeRow{threeRegimes(), wrong, noNumbers})
	}
	for _, row := range rows {
		way, ok := impl.RegimeWay(row.r, row.list)
		expect(t, "regime way of "+shown(row.r, row.list), shown(way, ok), row.want)
	}
}

func TestRegimesShared(t *testing.T) {
	for _, r := range []impl.Regimes{oneRegime(), twoRegimes(), threeRegimes()} {
		for _, count := range []int{1, 2, 5, 8} {
			many := make([][]float32, count)
			want := make([]float32, count)
			for i := range many {
				many[i] = []float32{float32(i), 2, 0.1 * float32(i)}[i%3:]
				_, want[i], _ = impl.RegimeShares(r, many[i])
			}
			for workers := int64(1); workers <= impl.MaxWorkers; workers++ {
				sums, ok := impl.RegimesShared(r, many, workers)
				expect(t, "regimes shared by "+shown(workers), shown(sums, ok), shown(want, true))
			}
			for _, workers := range append(farInts(), 0, impl.MaxWorkers+1) {
				sums, ok := impl.RegimesShared(r, many, workers)
				expect(t, "regimes shared by "+shown(workers), shown(sums, ok), noNumbers)
			}
		}
	}
	rows := []struct {
		r       impl.Regimes
		many    [][]float32
		workers int64
		want    string
	}{
		{oneRegime(), [][]float32{{0}}, 2, "[00000000] true"},
		{twoRegimes(), [][]float32{{0}, {5, 2}, {1, 2, 3}}, 3, "[bf2be1f4 c04f3f94 c0b243f9] true"},
		{threeRegimes(), [][]float32{{0}, {5, 2}, {1, 2, 3}, repeated(float32(2), impl.MaxLong)}, impl.MaxWorkers, "[bfed2b1c c03d8176 c0533e44 c2758a96] true"},
		{oneRegime(), [][]float32{{1}, {1, -14.4}}, 1, "[bf000000 c2cf8ed0] true"},
		{oneRegime(), [][]float32{{1}, {1, -14.5}}, 1, "[] false"},
	}
	for _, row := range rows {
		sums, ok := impl.RegimesShared(row.r, row.many, row.workers)
		expect(t, "regimes shared of "+shown(row.r, row.many, row.workers), shown(sums, ok), row.want)
	}
}

func TestWrongRegimesShared(t *testing.T) {
	for _, many := range [][][]float32{nil, {}, repeated([]float32{1}, 9), repeated([]float32{1}, 16), repeated([]float32{1}, 1000)} {
		sums, ok := impl.RegimesShared(oneRegime(), many, 2)
		expect(t, "regimes shared of "+shown(len(many)), shown(sums, ok), noNumbers)
	}
	for _, wrong := range append(wrongSeries(), []float32{1, 30}) {
		for place := range 8 {
			many := repeated([]float32{1, 2, 3}, 8)
			many[place] = wrong
			sums, ok := impl.RegimesShared(oneRegime(), many, 5)
			expect(t, "regimes shared with "+shown(wrong), shown(sums, ok), noNumbers)
		}
	}
	for _, wrong := range wrongRegimes() {
		sums, ok := impl.RegimesShared(wrong, [][]float32{{1}, {2}}, 2)
		expect(t, "regimes shared by "+shown(wrong), shown(sums, ok), noNumbers)
	}
}

func TestRegimeWorkersAreJoined(t *testing.T) {
	expectJoined(t, func() {
		impl.RegimesShared(threeRegimes(), [][]float32{wavy(), steep(), {3e38, 3e38}, nil, tiny()}, impl.MaxWorkers)
	})
}

type shockRow struct {
	list              []float32
	base, share, keep float32
	want              string
}

func TestShockRun(t *testing.T) {
	minusZero := fromBits(negZero)
	below := fromBits(0x3f7fffff)
	rows := []shockRow{
		{[]float32{1, 1}, 1, 0, 0, "[3f800000 3f800000] 3f800000 true"},
		{[]float32{2, 1, -3}, 0.5, 0.25, 0.5, "[40000000 40200000 40000000] 40933dca true"},
		{[]float32{2}, 0.5, 0.25, 0.5, "[40000000] 3fac5c86 true"},
		{rough(), 0.7, 0.3, 0.6, "[40e00005 409f3337 419ba148 417a3a5f 4255225c 4202ae3f 4225e161 41d845c1 42fa70dd 4297f562 425d7343 42091f45] 421bde20 true"},
		{wavy(), 2.2, 0.1, 0.8, "[41b00004 41a6168a 419c4d6d 41c5178a 41af5877 47c359de 479cb7f6 477ac52a 47489fee 472091c5 470077e8 46d55d0e] 46b29826 true"},
		{tiny(), fromBits(5), 0.1, 0.8, "[00000032 0000002d 00000029 00000026 00000023] c378e27e true"},
		{heights(), 0.01, 0.05, 0.93, "[3f000008 3f749bad 3f693edc 4100eadb 41281a6a 411d76c6 42b25340 42a658b0 429acd9d 4299030f 4291ebce 4287e548 42eb4d8d 42dba2bf] 434b7af0 true"},
		{wholeNumbers(impl.MaxLong), 1e6, 0.1, 0.85, "[4b98968a 4b895449 4bac9435 4ce6b52e 4e122c65 4e0da458 4eaf1a43 4eeb9ef8 4f129b80 4ef9f1b5 4ee94d0a 4f15de8f 4f13db18 4f079930 4ef877a0 4ef43093 4f101a77 4efe3de5 4f1b6161 4f1e48fc 4f1b8952 4f1fee06 4f3b5c8a 4f25f3a9 4f3d1ef5 4f37b090 4f2b194b 4f22cde1 4f2abee7 4f11b210 4f11c67e 4f0094ae 4edc1eec 4ebc5e31 4ea76b95 4eb2ad78 4e980648 4eb1ea4c 4eac4f44 4ea1ec19 4ea297df 4ec6dc78 4eab13ca 4ecbf2fb 4ec3a5ac 4eb2b1c0 4ea83b75 4eb691ea 4f025342 4ef73f2b 4ed4c637 4f14453c 4f37aacf 4f1d5604 4f121b4e 4f2f914c 4f27f599 4f161ddc 4f04f623 4ef5b8f4 4f034854 4ee05a9e 4ef54f0c 4ee54ea5 4ecee01b 4ec07dee 4eccefb9 4f0e4b0a 4f078e64 4eeaa136 4ec7b08b 4eaa0e6e 4e95c449 4ea107e2 4e89045d 4ea7a1db 4ea723c3 4ea25a74 4eab4432 4ede50ec 4ec3a419 4ef7ac42 4efa1294 4ef07e51 4ef081a3 4f09fa1c 4eed9dc2 4f021d82 4ef03576 4ed41fde 4ebd4b6c 4eb8e901 4ee5ff1e 4ecc7938 4f09b2ae 4f14f443] 448f519f true"},
		{wholeNumbers(impl.MaxLong + 1), 1e6, 0.1, 0.85, "[] 00000000 false"},
		{[]float32{1e-20, -3e-19, 2e-20}, 1e-38, 0.5, 0.3, "[01881cea 0108629a 01aa2e99] c2fe886f true"},
		// Shares and keeps of 0, and such whose sum is 1, or nearly so.
		{[]float32{3, 2, 1}, 1, 0, 0.5, "[40000000 40000000 40000000] 40914564 true"},
		{[]float32{3, 2, 1}, 1, 0.5, 0, "[40000000 40b00000 40400000] 4090e9f0 true"},
		{[]float32{3, 2, 1}, 1, minusZero, minusZero, "[3f800000 3f800000 3f800000] 40e00000 true"},
		{[]float32{3, 2, 1}, 1, 0.5, 0.5, "[] 00000000 false"},
		{[]float32{3, 2, 1}, 1, 1, 0, "[] 00000000 false"},
		{[]float32{3, 2, 1}, 1, 0, 1, "[] 00000000 false"},
		{[]float32{3, 2, 1}, 1, 0, below, "[4b800000 4b800000 4b800000] 41c7a05b true"},
		{[]float32{3, 2, 1}, 1, below, 0, "[4b800000 411fffff 40a00000] 41292e32 true"},
		{[]float32{3, 2, 1}, 1, below, fromBits(0x33000000), "[] 00000000 false"},
		{[]float32{3, 2, 1}, 1, below, fromBits(0x32ffffff), "[4c000000 412fffff 40a00001] 412f327c true"},
		{[]float32{3, 2, 1}, 1, 0.3, 0.69999999, "[] 00000000 false"},
		{[]float32{3, 2, 1}, 1, 0.3, 0.6999998, "[4aaaaaab 4a6eeefa 4a2740e8] 41b629b8 true"},
		{[]float32{3, 2, 1}, 1, 0.75, 0.5, "[] 00000000 false"},
		{[]float32{3, 2, 1}, 1, 3e38, 3e38, "[] 00000000 false"},
		{[]float32{3, 2, 1}, 1, -fromBits(1), 0.5, "[] 00000000 false"},
		{[]float32{3, 2, 1}, 1, 0.5, -fromBits(1), "[] 00000000 false"},
		{[]float32{3, 2, 1}, 1, -1, 0.5, "[] 00000000 false"},
		{[]float32{3, 2, 1}, 1, 0.5, -1, "[] 00000000 false"},
		// Bases.
		{[]float32{3, 2, 1}, 0, 0.25, 0.5, "[] 00000000 false"},
		{[]float32{3, 2, 1}, minusZero, 0.25, 0.5, "[] 00000000 false"},
		{[]float32{3, 2, 1}, -1, 0.25, 0.5, "[] 00000000 false"},
		{[]float32{3, 2, 1}, -fromBits(1), 0.25, 0.5, "[] 00000000 false"},
		{[]float32{0, 0, fromBits(negZero)}, fromBits(1), 0.25, 0.5, "[00000004 00000003 00000003] c319206c true"},
		{[]float32{3, 2, 1}, fromBits(1), 0.25, 0.5, "[] 00000000 false"},
		// The first, the last, or only the sum is not finite, or only just is.
		{[]float32{1}, 3e38, 0.25, 0.5, "[] 00000000 false"},
		{[]float32{1}, 7e37, 0.25, 0.5, "[7f52a60a] 42310e43 true"},
		{[]float32{2e19}, 1, 0.25, 0.5, "[] 00000000 false"},
		{[]float32{2e19, 1}, 1, 0.25, 0.5, "[] 00000000 false"},
		{[]float32{1, 2e19}, 1, 0.25, 0.5, "[] 00000000 false"},
		{[]float32{1, 1e19}, 1, 0.25, 0.5, "[40800000 40500000] 7d392f81 true"},
		{[]float32{1.8e19, 1.8e19, 1.8e19}, 1, 0, 0, "[] 00000000 false"},
		{[]float32{1.8e19, 1.8e19}, 1, 0, 0, "[3f800000 3f800000] 7f73c022 true"},
		{[]float32{1.8e19, 1, 1}, 3e38, 0.5, 0, "[] 00000000 false"},
		{[]float32{1.8e19, 1, 1}, 1.5e38, 0.5, 0, "[7f61b1e6 7f6ab904 7ee1b1e6] 43051bba true"},
		{[]float32{1.8e19, 1, 1}, 1.5e38, 0.25, 0.5, "[] 00000000 false"},
	}
	for _, x := range wrongNumbers() {
		rows = append(rows, shockRow{rough(), x, 0.25, 0.5, noTerms}, shockRow{rough(), 1, x, 0.5, noTerms}, shockRow{rough(), 1, 0.25, x, noTerms},
			shockRow{rough(), 1, x, 0, noTerms}, shockRow{rough(), 1, 0, x, noTerms})
	}
	for _, wrong := range wrongSeries() {
		rows = append(rows, shockRow{wrong, 1, 0.25, 0.5, noTerms}, shockRow{wrong, 1, 0, 0, noTerms})
	}
	for _, row := range rows {
		squares, unlikely, ok := impl.ShockRun(row.list, row.base, row.share, row.keep)
		expect(t, "shocks of "+shown(row.list, row.base, row.share, row.keep), shown(squares, unlikely, ok), row.want)
	}
}
