package tests

import (
	"testing"

	"loop.example/g01375/impl"
)

const (
	noLevel  = "00000000 00000000 00000000 00000000 00000000 false"
	noLevels = "[] [] 00000000 false"
	noBack   = "[] [] false"
)

func levelOf(mean, spread, noise, drift float32) impl.Level {
	return impl.Level{Mean: mean, Spread: spread, Noise: noise, Drift: drift}
}

func slowLevel() impl.Level { return levelOf(2, 1.5, 0.7, 0.3) }

func wrongLevels() []impl.Level {
	wrong := []impl.Level{{}, levelOf(1, 1, 0, 1), levelOf(1, 1, fromBits(negZero), 1)}
	for _, x := range []float32{-1, -fromBits(1), -3e38} {
		wrong = append(wrong, levelOf(1, x, 1, 1), levelOf(1, 1, x, 1), levelOf(1, 1, 1, x))
	}
	for _, x := range wrongNumbers() {
		wrong = append(wrong, levelOf(x, 1, 1, 1), levelOf(1, x, 1, 1), levelOf(1, 1, x, 1), levelOf(1, 1, 1, x), levelOf(x, x, x, x))
	}
	return wrong
}

func TestValidLevel(t *testing.T) {
	minusZero := fromBits(negZero)
	for _, l := range []impl.Level{levelOf(0, 0, 1, 0), levelOf(minusZero, minusZero, fromBits(1), minusZero), levelOf(-5, 0, 1, 0), slowLevel(),
		levelOf(-3e38, 3e38, 3e38, 3e38), levelOf(fromBits(1), fromBits(1), fromBits(1), fromBits(1))} {
		expect(t, "valid "+shown(l), shown(impl.ValidLevel(l)), "true")
	}
	for _, wrong := range wrongLevels() {
		expect(t, "valid "+shown(wrong), shown(impl.ValidLevel(wrong)), "false")
	}
}

func TestSameLevel(t *testing.T) {
	pairs := [][2]float32{{1, 2}, {0, fromBits(negZero)}, {fromBits(nanBits), 0}, {fromBits(infBits), fromBits(minusInf)}, {1, fromBits(0x3f800001)}, {-1, 1}}
	for _, pair := range pairs {
		x, y := pair[0], pair[1]
		same := levelOf(x, x, x, x)
		expect(t, "the same "+shown(same), shown(impl.SameLevel(same, same)), "true")
		for _, other := range []impl.Level{levelOf(y, x, x, x), levelOf(x, y, x, x), levelOf(x, x, y, x), levelOf(x, x, x, y), levelOf(y, y, y, y)} {
			expect(t, "the same "+shown(same, other), shown(impl.SameLevel(same, other), impl.SameLevel(other, same)), "false false")
		}
	}
	nan, other := fromBits(nanBits), fromBits(0xffc00001)
	expect(t, "the same without numbers", shown(impl.SameLevel(levelOf(nan, other, nan, other), levelOf(other, nan, other, nan))), "true")
	expect(t, "the same exchanged", shown(impl.SameLevel(levelOf(1, 2, 3, 4), levelOf(2, 1, 4, 3))), "false")
	expect(t, "the same in all", shown(impl.SameLevel(levelOf(1, 2, 3, 4), levelOf(1, 2, 3, 4)), impl.SameLevel(impl.Level{}, impl.Level{})), "true true")
}

type levelRow struct {
	l    impl.Level
	x    float32
	seen bool
	want string
}

func TestLevelStep(t *testing.T) {
	minusZero := fromBits(negZero)
	rows := []levelRow{
		{levelOf(2, 1, 1, 0), 4, true, "40400000 3f000000 3f800000 00000000 3fac5c86 true"},
		{levelOf(2, 1, 1, 0), 4, false, "40000000 3f800000 3f800000 00000000 00000000 true"},
		{levelOf(2, 1, 1, 1), 5, true, "40800000 3f2aaaaa 3f800000 3f800000 400327d5 true"},
		{levelOf(2, 1, 1, 1), 5, false, "40000000 40000000 3f800000 3f800000 00000000 true"},
		{levelOf(-2, 1, 3, 0), -10, true, "c0800000 3f400000 40400000 00000000 410b1722 true"},
		{slowLevel(), 7.7, true, "40c353f7 3f010626 3f333333 3e99999a 40de98be true"},
		{slowLevel(), -0.1, true, "3ef9db28 3f010626 3f333333 3e99999a 3fab89e1 true"},
		{slowLevel(), 2, true, "40000000 3f010626 3f333333 3e99999a 3eea9208 true"},
		{slowLevel(), 7.7, false, "40000000 3fe66666 3f333333 3e99999a 00000000 true"},
		{levelOf(0.1, 0.7, 0.3, 0.9), 0.2, true, "3e3ca1b0 3e8158ec 3e99999a 3f666666 3ea5a975 true"},
		{levelOf(1e8, 3, 7, 0.1), 3, true, "4c843147 40098144 40e00000 3dcccccd 57e11f59 true"},
		// Spreads and drifts of zeros of both signs.
		{levelOf(2, 0, 1, 0), 4, true, "40000000 00000000 3f800000 00000000 40000000 true"},
		{levelOf(2, 0, 1, 0), 4, false, "40000000 00000000 3f800000 00000000 00000000 true"},
		{levelOf(2, minusZero, 1, minusZero), 4, true, "40000000 80000000 3f800000 80000000 40000000 true"},
		{levelOf(2, minusZero, 1, minusZero), 4, false, "40000000 80000000 3f800000 80000000 00000000 true"},
		{levelOf(2, minusZero, 1, 0), 4, false, "40000000 00000000 3f800000 00000000 00000000 true"},
		{levelOf(minusZero, 0, 1, 0), minusZero, true, "00000000 00000000 3f800000 00000000 00000000 true"},
		{levelOf(minusZero, minusZero, 1, minusZero), minusZero, true, "80000000 80000000 3f800000 80000000 00000000 true"},
		{levelOf(minusZero, 1, 1, 0), minusZero, false, "80000000 3f800000 3f800000 00000000 00000000 true"},
		// Spreads that are much greater than the noise, or much less.
		{levelOf(2, 1e10, 1, 0), 7, true, "40e00000 00000000 3f800000 00000000 413834f1 true"},
		{levelOf(2, 1e-10, 1, 0), 7, true, "40000000 2edbe6ff 3f800000 00000000 41480000 true"},
		{levelOf(2, 1, fromBits(1), 0), 7, true, "40e00000 00000000 00000001 00000000 41480000 true"},
		{levelOf(0, fromBits(3), fromBits(2), fromBits(1)), fromBits(100), true, "00000043 00000001 00000002 00000001 c24af96e true"},
		{levelOf(2, 1, 3e38, 0), 3, true, "40000000 3f800000 7f61b1e6 00000000 42313196 true"},
		{levelOf(2, 3e38, 1, 0), 3, true, "40400000 00000000 3f800000 00000000 42313196 true"},
		// The spread, its sum with the noise, the difference, its square, or the mean
		// is not finite, or only just is.
		{levelOf(2, 2e38, 1, 2e38), 3, true, "00000000 00000000 00000000 00000000 00000000 false"},
		{levelOf(2, 2e38, 1, 2e38), 3, false, "00000000 00000000 00000000 00000000 00000000 false"},
		{levelOf(2, 2e38, 1, 1e38), 3, false, "40000000 7f61b1e6 3f800000 7e967699 00000000 true"},
		{levelOf(2, 2e38, 2e38, 0), 3, true, "00000000 00000000 00000000 00000000 00000000 false"},
		{levelOf(2, 2e38, 2e38, 0), 3, false, "40000000 7f167699 7f167699 00000000 00000000 true"},
		{levelOf(2, 2e38, 1e38, 0), 3, true, "402aaaaa 7e489e22 7e967699 00000000 42313196 true"},
		{levelOf(-3e38, 1, 1, 0), 3e38, true, "00000000 00000000 00000000 00000000 00000000 false"},
		{levelOf(-3e38, 1, 1, 0), 3e38, false, "ff61b1e6 3f800000 3f800000 00000000 00000000 true"},
		{levelOf(0, 1, 1, 0), 3e19, true, "00000000 00000000 00000000 00000000 00000000 false"},
		{levelOf(0, 1, 1, 0), 1e19, true, "5e8ac723 3f000000 3f800000 00000000 7d967699 true"},
		{levelOf(0, 1e-20, 1e-20, 0), 1e19, true, "00000000 00000000 00000000 00000000 00000000 false"},
	}
	for _, seen := range []bool{false, true} {
		for _, x := range wrongNumbers() {
			rows = append(rows, levelRow{slowLevel(), x, seen, noLevel})
		}
		for _, wrong := range wrongLevels() {
			rows = append(rows, levelRow{wrong, 1, seen, noLevel})
		}
	}
	for _, row := range rows {
		next, unlikely, ok := impl.LevelStep(row.l, row.x, row.seen)
		expect(t, "level step of "+shown(row.l, row.x, row.seen), shown(next, unlikely, ok), row.want)
	}
}

type levelRunRow struct {
	l    impl.Level
	list []float32
	seen []bool
	want string
}

// wrongRuns are series and bools that do not go together.
func wrongRuns() []levelRunRow {
	rows := []levelRunRow{
		{levelOf(1, 1, 1, 1), []float32{1, 2, 3}, marks("kk"), ""},
		{levelOf(1, 1, 1, 1), []float32{1, 2, 3}, marks("kkkk"), ""},
		{levelOf(1, 1, 1, 1), []float32{1, 2, 3}, nil, ""},
		{levelOf(1, 1, 1, 1), []float32{1}, marks("--"), ""},
		{levelOf(1, 1, 1, 1), nil, nil, ""},
		{levelOf(1, 1, 1, 1), nil, marks("k"), ""},
	}
	for _, wrong := range wrongSeries() {
		for _, seen := range []bool{false, true} {
			rows = append(rows, levelRunRow{levelOf(1, 1, 1, 1), wrong, repeated(seen, len(wrong)), ""})
		}
	}
	return rows
}

func levelRunRows() []levelRunRow {
	rows := wrongRuns()
	for _, wrong := range wrongLevels() {
		rows = append(rows, levelRunRow{wrong, []float32{1}, marks("k"), ""}, levelRunRow{wrong, []float32{1, 2}, marks("--"), ""})
	}
	return rows
}

func TestLevelRun(t *testing.T) {
	rows := []levelRunRow{
		{levelOf(2, 1, 1, 0), []float32{4}, marks("k"), "[40400000] [3f000000] 3fac5c86 true"},
		{levelOf(2, 1, 1, 0), []float32{4}, marks("-"), "[40000000] [3f800000] 00000000 true"},
		{levelOf(2, 1, 1, 0), []float32{4, 1, 7}, marks("kkk"), "[40400000 40155555 40600000] [3f000000 3eaaaaaa 3e7fffff] 41331722 true"},
		{levelOf(2, 1, 1, 0.5), []float32{4, 1, 7}, marks("k-k"), "[404ccccd 404ccccd 40b13b14] [3f199999 3f8ccccc 3f1d89d9] 4090690e true"},
		{slowLevel(), rough(), repeated(true, 12), "[3f6b8520 4089b932 3f12c3e8 40c17962 404b28b0 c0149d02 be33f1b0 410ecae5 408b6e00 409cc8b9 40462c65 bf9c30a6] [3f010626 3ebf976c 3eafd5fc 3eaba771 3eaa8303 3eaa3281 3eaa1c4c 3eaa162b 3eaa1479 3eaa1402 3eaa13e0 3eaa13d7] 43b76912 true"},
		{slowLevel(), rough(), repeated(false, 12), "[40000000 40000000 40000000 40000000 40000000 40000000 40000000 40000000 40000000 40000000 40000000 40000000] [3fe66666 40066666 40199999 402ccccc 403fffff 40533332 40666665 40799998 40866666 40900000 4099999a 40a33334] 00000000 true"},
		{slowLevel(), rough(), marks("k-kk--kkk--k"), "[3f6b8520 3f6b8520 bfd4cdb6 40a9be38 40a9be38 40a9be38 4053dea8 4136c783 40b0fe9e 40b0fe9e 40b0fe9e bfeb7e50] [3f010626 3f4dd2f3 3edb54ce 3eb6c2ba 3f282e2a 3f74faf7 3ee63368 3eb95537 3eae3286 3f23e610 3f70b2dd 3ee5187e] 43784276 true"},
		{slowLevel(), rough(), marks("--kkkkkk----"), "[40000000 40000000 c0069b40 40b31ea4 4035bd70 c0235c54 be94b1c8 410df143 410df143 410df143 410df143 410df143] [3fe66666 40066666 3f0abc4a 3ec3b205 3eb0e503 3eabf0e8 3eaa9731 3eaa3812 3f21e8d6 3f6eb5a3 3f9dc138 3fc4279e] 438a54d4 true"},
		{levelOf(-7, 0, 2.2, 0), wavy(), repeated(true, 12), "[c0e00000 c0e00000 c0e00000 c0e00000 c0e00000 c0e00000 c0e00000 c0e00000 c0e00000 c0e00000 c0e00000 c0e00000] [00000000 00000000 00000000 00000000 00000000 00000000 00000000 00000000 00000000 00000000 00000000 00000000] 48643321 true"},
		{levelOf(0, 5, 2e-45, 0), tiny(), marks("kk-kk"), "[00000001 00000001 00000001 00000001 00000001] [00000000 00000000 00000000 00000000 00000000] c31a1d1a true"},
		{levelOf(40000, 1e9, 1e8, 1e7), wholeNumbers(impl.MaxLong), repeated(true, impl.MaxLong), "[456139b0 45b4dc24 4672df99 47030884 46f679a3 4745250a 476ade69 47847bac 47485421 473e2c4f 476c2f00 476a1f95 4755c900 4744d67c 474713ff 4768086a 474693ed 476ee882 47744483 4770d17f 4777a771 478b5ae2 476e9faa 47866e46 4782cd8a 4773b30c 476abbc9 477901b5 473f6be6 474ba341 4731fa9b 470d6420 46e314cc 46d98fc6 4709965f 46cc2568 470ddc7c 4713ca17 4711b805 471a8633 473bfb2e 47169c5c 4737cb53 4733a6e0 4724fb32 471f5728 473100fd 476463b6 47579164 472c9956 4765dfb4 4787bef8 4754dd28 474b518d 47764f4c 476ed345 47533719 4739a167 47323cd9 4748d604 471c8105 473991ed 473362d5 4724305c 471f2098 47322d4b 476789aa 475d1f0b 4734df00 47078f92 46ce8ae4 46c265b1 46fdf2b1 46bc2ffd 4709bb3a 4714655d 4717b58e 47265ef5 474e0770 472f1c8d 4756ee7a 47598f4f 4751c1f6 47530e89 476bb652 473c984c 4753576f 4744423e 472a47be 47191036 471ef470 47466cf9 472d95c6 47600dc9 4770aaea 4779494e] [4cad8d30 4c3facde 4c0f6afe 4bf60782 4be297db 4bd8d002 4bd3c128 4bd11a14 4bcfb352 4bcef50e 4bce8ff1 4bce5a25 4bce3d82 4bce2e42 4bce2624 4bce21d0 4bce1f82 4bce1e48 4bce1da1 4bce1d48 4bce1d19 4bce1cff 4bce1cf2 4bce1cea 4bce1ce6 4bce1ce4 4bce1ce3 4bce1ce3 4bce1ce3 4bce1ce3 4bce1ce3 4bce1ce3 4bce1ce3 4bce1ce3 4bce1ce3 4bce1ce3 4bce1ce3 4bce1ce3 4bce1ce3 4bce1ce3 4bce1ce3 4bce1ce3 4bce1ce3 4bce1ce3 4bce1ce3 4bce1ce3 4bce1ce3 4bce1ce3 4bce1ce3 4bce1ce3 4bce1ce3 4bce1ce3 4bce1ce3 4bce1ce3 4bce1ce3 4bce1ce3 4bce1ce3 4bce1ce3 4bce1ce3 4bce1ce3 4bce1ce3 4bce1ce3 4bce1ce3 4bce1ce3 4bce1ce3 4bce1ce3 4bce1ce3 4bce1ce3 4bce1ce3 4bce1ce3 4bce1ce3 4bce1ce3 4bce1ce3 4bce1ce3 4bce1ce3 4bce1ce3 4bce1ce3 4bce1ce3 4bce1ce3 4bce1ce3 4bce1ce3 4bce1ce3 4bce1ce3 4bce1ce3 4bce1ce3 4bce1ce3 4bce1ce3 4bce1ce3 4bce1ce3 4bce1ce3 4bce1ce3 4bce1ce3 4bce1ce3 4bce1ce3 4bce1ce3 4bce1ce3] 449426bb true"},
		{levelOf(40000, 1e9, 1e8, 1e7), wholeNumbers(impl.MaxLong + 1), repeated(true, impl.MaxLong+1), "[] [] 00000000 false"},
		// The first, the last, or only the sum is not finite, or only just is.
		{levelOf(0, 1, 1, 0), []float32{3e19, 0}, marks("kk"), "[] [] 00000000 false"},
		{levelOf(0, 1, 1, 0), []float32{0, 3e19}, marks("kk"), "[] [] 00000000 false"},
		{levelOf(0, 1, 1, 0), []float32{0, 3e19}, marks("k-"), "[00000000 00000000] [3f000000 3f000000] 3eb17218 true"},
		{levelOf(0, 0, 1, 0), []float32{1.8e19, 1.8e19, 1.8e19}, marks("kkk"), "[] [] 00000000 false"},
		{levelOf(0, 0, 1, 0), []float32{1.8e19, 1.8e19, 1.8e19}, marks("k-k"), "[00000000 00000000 00000000] [00000000 00000000 00000000] 7f73c022 true"},
		{levelOf(0, 0, 1, 1e38), []float32{1, 1, 1, 1}, marks("----"), "[] [] 00000000 false"},
		{levelOf(0, 0, 1, 1e38), []float32{1, 1, 1}, marks("---"), "[00000000 00000000 00000000] [7e967699 7f167699 7f61b1e6] 00000000 true"},
	}
	for _, row := range levelRunRows() {
		row.want = noLevels
		rows = append(rows, row)
	}
	for _, row := range rows {
		means, spreads, sum, ok := impl.LevelRun(row.l, row.list, row.seen)
		expect(t, "level run of "+shown(row.l, row.list, row.seen), shown(means, spreads, sum, ok), row.want)
	}
}

func TestLevelBack(t *testing.T) {
	minusZero := fromBits(negZero)
	rows := []levelRunRow{
		{levelOf(2, 1, 1, 0), []float32{4}, marks("k"), "[40400000] [3f000000] true"},
		{levelOf(2, 1, 1, 0), []float32{4}, marks("-"), "[40000000] [3f800000] true"},
		{levelOf(2, 1, 1, 0), []float32{4, 1, 7}, marks("kkk"), "[40600000 40600000 40600000] [3e800000 3e7fffff 3e7fffff] true"},
		{levelOf(2, 1, 1, 1), []float32{4, 1, 7}, marks("kkk"), "[404f3cf4 40461862 40a18618] [3ef3cf3c 3ef3cf3d 3f1e79e8] true"},
		{levelOf(2, 1, 1, 0.5), []float32{4, 1, 7}, marks("k-k"), "[40827628 4099d89e 40b13b14] [3eec4ec4 3f227626 3f1d89d9] true"},
		{slowLevel(), rough(), repeated(true, 12), "[4015e42a 404c108c 4012d64c 40730dd8 3fe496a5 3f08f930 404744aa 40c2acea 406127cb 4030a7b9 3f54074c bf9c30a6] [3e8f9495 3e70b484 3e63e120 3e605741 3e5f5f98 3e5f2419 3e5f33dc 3e5facc6 3e617458 3e67eb33 3e7f5636 3eaa13d7] true"},
		{slowLevel(), rough(), repeated(false, 12), "[40000000 40000000 40000000 40000000 40000000 40000000 40000000 40000000 40000000 40000000 40000000 40000000] [3fe66666 40066666 40199999 402ccccc 403fffff 40533332 40666665 40799998 40866666 40900000 4099999a 40a33334] true"},
		{slowLevel(), rough(), marks("k-kk--kkk--k"), "[3fd0fbfc 4003a46a 401ecad7 40ac415a 40ae5ddf 40b07a63 40b296e8 40e3115c 40609439 3fdcf0dc bd68d700 bfeb7e50] [3ea94e28 3eb9d120 3e8b71a4 3e8df8f0 3ec6338f 3ec4cf2a 3e89cbbf 3e7de2ac 3e8fa6a5 3edba1d0 3ef81d19 3ee5187e] true"},
		{slowLevel(), rough(), marks("--kkkkkk----"), "[3fd3dee2 3fcc8408 3fc5292e 4063aa81 3ffa5c1a 3f9822ce 4090fa74 410df143 410df143 410df143 410df143 410df143] [3f1d441a 3ef8e9bc 3e95916c 3e74bba2 3e675c9e 3e69a50a 3e7fea16 3eaa3812 3f21e8d6 3f6eb5a3 3f9dc138 3fc4279e] true"},
		{levelOf(-7, 0, 2.2, 0.01), wavy(), repeated(true, 12), "[c02d37ea 3fc7bf78 40bb1a56 4121f5aa 4167150b 41648722 4166703f 4168ff1b 416c9bc9 41706310 41757f81 417475a9] [3c1c9e0e 3c9672a8 3cd9bb0a 3d0cb0da 3d2b47a1 3d493063 3d66f680 3d82925a 3d9223d2 3da27833 3db3db95 3dc69eff] true"},
		{levelOf(0.1, 0.7, 0.3, 0.9), rough(), marks("kkkkkk-kkkkk"), "[3fafed20 4096ddac 3ee59180 40edac9a 3f302f48 c08084d0 408dc867 414e0ad1 403d477c 40805053 3f176f04 c08b4487] [3e53ad80 3e4991ee 3e49218b 3e492459 3e49d542 3e59b764 3f1195e2 3e59b770 3e49d622 3e493884 3e4af081 3e731574] true"},
		{levelOf(40000, 1e9, 1e8, 1e7), wholeNumbers(impl.MaxLong), repeated(true, impl.MaxLong), "[46f2d5a3 470536d0 471b3a16 47345d5e 4743a996 475c0c44 47641b78 4761abd2 47535574 47576055 4760aad8 475c69f1 47575855 4757ec0e 475efbe2 4767d4cd 4767c1b2 4774098f 4775ef95 47768da9 4778ad1b 47790df6 476e13d0 476de00b 476267c8 47556032 474a26ba 473e173b 4728485b 471fb7b8 470f75db 4702aee0 46fd705d 47039902 470c0b22 470cf3e0 471b581b 472055bf 4724fa8f 472c1ba1 47329ddd 472f267b 47383bd9 47386580 473a271a 4741fd51 474ed0aa 4759d993 4755f2d8 47555966 47646ee4 4763e660 4753c397 47535b5e 47565514 474a7ee6 473d0c4e 4734d7bf 47331210 473360fc 472b6fb4 4730f6b1 472dc726 472bb3b8 472e7ba9 47342ac5 4734e75b 47222946 470c5638 46faaa5f 46f317f3 47004fc3 470bd406 47109616 472346c3 472cbb6a 4735bd82 4740db41 474aa906 474969cc 47532626 4751bfb7 474edb8d 474dc8be 474bd51c 47400830 47414de3 473aa0ac 47371007 473bcb49 4748a65f 47581565 475e9ea8 4770c530 4776f53c 4779494e] [4bc8be4c 4ba29cee 4b8e4d53 4b837ba4 4b7b709f 4b754ce3 4b7207aa 4b7049b3 4b6f5c26 4b6edd9b 4b6e9a35 4b6e764c 4b6e632d 4b6e58fd 4b6e5390 4b6e50ab 4b6e4f22 4b6e4e50 4b6e4de0 4b6e4da3 4b6e4d84 4b6e4d74 4b6e4d6a 4b6e4d65 4b6e4d63 4b6e4d63 4b6e4d63 4b6e4d63 4b6e4d63 4b6e4d63 4b6e4d63 4b6e4d63 4b6e4d63 4b6e4d63 4b6e4d63 4b6e4d63 4b6e4d63 4b6e4d63 4b6e4d63 4b6e4d63 4b6e4d63 4b6e4d63 4b6e4d63 4b6e4d63 4b6e4d63 4b6e4d63 4b6e4d63 4b6e4d63 4b6e4d63 4b6e4d63 4b6e4d63 4b6e4d63 4b6e4d63 4b6e4d63 4b6e4d63 4b6e4d63 4b6e4d63 4b6e4d63 4b6e4d63 4b6e4d63 4b6e4d63 4b6e4d63 4b6e4d63 4b6e4d63 4b6e4d63 4b6e4d63 4b6e4d63 4b6e4d63 4b6e4d63 4b6e4d63 4b6e4d64 4b6e4d66 4b6e4d69 4b6e4d6e 4b6e4d78 4b6e4d8a 4b6e4dac 4b6e4dec 4b6e4e63 4b6e4f43 4b6e50e7 4b6e53fb 4b6e59c3 4b6e649e 4b6e7900 4b6e9f45 4b6ee71b 4b6f6df9 4b706b28 4b724678 4b75c2c9 4b7c4df4 4b844b66 4b8fd35a 4ba57923 4bce1ce3] true"},
		{levelOf(40000, 1e9, 1e8, 1e7), wholeNumbers(impl.MaxLong + 1), repeated(true, impl.MaxLong+1), "[] [] false"},
		// A drift and a spread of 0, of which one alone is enough to go back.
		{levelOf(2, 0, 1, 0), []float32{4, 1}, marks("kk"), "[] [] false"},
		{levelOf(2, 0, 1, 0), []float32{4, 1}, marks("--"), "[] [] false"},
		{levelOf(2, 0, 1, 0), []float32{4}, marks("k"), "[40000000] [00000000] true"},
		{levelOf(2, minusZero, 1, minusZero), []float32{4, 1}, marks("kk"), "[] [] false"},
		{levelOf(2, 0, 1, fromBits(1)), []float32{4, 1}, marks("kk"), "[40000000 40000000] [00000001 00000002] true"},
		{levelOf(2, fromBits(9), 1, 0), []float32{4, 1}, marks("--"), "[40000000 40000000] [00000009 00000009] true"},
		{levelOf(2, 1, fromBits(1), 0), []float32{4, 1, 3}, marks("kkk"), "[] [] false"},
		{levelOf(2, 1, fromBits(1), 0), []float32{4, 1, 3}, marks("--k"), "[40400000 40400000 40400000] [00000000 00000000 00000000] true"},
		{levelOf(2, 1, fromBits(1), 1e-7), []float32{4, 1, 3}, marks("--k"), "[40400000 40400000 40400000] [34800000 34000000 00000000] true"},
		{levelOf(2, 0.7, fromBits(1), 1.1e-7), []float32{4, 1, 3, 5}, marks("---k"), "[409ffffd 409ffffe 409fffff 40a00000] [34c00000 34800000 34000000 00000000] true"},
		// What is told back, or only the sum of how unlikely numbers were, is not
		// finite, or only just is.
		{levelOf(0, 2e38, 1, 1e38), []float32{4, 1}, marks("k-"), "[40800000 40800000] [00000000 7e967699] true"},
		{levelOf(0, 1e38, 1, 1.2e38), []float32{4, 1}, marks("--"), "[00000000 00000000] [7f258276 7f7fc99f] true"},
		{levelOf(0, 1e38, 1, 1.2e38), []float32{4, 1}, marks("-k"), "[3f25a5a6 3f800000] [7e69a91e 00000000] true"},
		{levelOf(0, 0, 1, 2e38), []float32{4, 1}, marks("-k"), "[] [] false"},
		{levelOf(0, 0, 1, 1e38), []float32{4, 1}, marks("-k"), "[3f000000 3f800000] [7e167699 00000000] true"},
		{levelOf(0, 1e38, 1e38, 1), []float32{1e19, 1e19}, marks("kk"), "[5eb90984 5eb90984] [7dc89e22 7dc89e22] true"},
		{levelOf(0, 1e-30, 1, 1e-30), []float32{1.8e19, 1.8e19, 1.8e19}, marks("kkk"), "[] [] false"},
		{levelOf(0, 1e-30, 1, 1e-30), []float32{1.8e19, 1.8e19, 1.8e19}, marks("k-k"), "[2e9e5466 2ec5e980 2eed7e99] [0e224260 0e736390 0ea24260] true"},
	}
	for _, row := range levelRunRows() {
		row.want = noBack
		rows = append(rows, row)
	}
	for _, row := range rows {
		means, spreads, ok := impl.LevelBack(row.l, row.list, row.seen)
		expect(t, "level back of "+shown(row.l, row.list, row.seen), shown(means, spreads, ok), row.want)
	}
}
