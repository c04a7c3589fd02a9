package tests

import (
	"slices"
	"testing"

	"loop.example/g01375/impl"
)

type driftRow struct {
	a           []float32
	mean, slack float32
	want        string
}

// wrongDrifts have a series, a mean or a slack that is wrong.
func wrongDrifts() []driftRow {
	rows := []driftRow{{rough(), 0, -fromBits(1), noNumbers}, {rough(), 0, -1, noNumbers}, {rough(), 0, -3e38, noNumbers}, {[]float32{0}, 0, -0.5, noNumbers}}
	for _, x := range wrongNumbers() {
		rows = append(rows, driftRow{[]float32{1, 2}, x, 1, noNumbers}, driftRow{[]float32{1, 2}, 1, x, noNumbers}, driftRow{[]float32{1, 2}, x, x, noNumbers})
	}
	for _, wrong := range wrongSeries() {
		rows = append(rows, driftRow{wrong, 0, 0, noNumbers}, driftRow{wrong, 1, 0.5, noNumbers}, driftRow{wrong, -3e38, 3e38, noNumbers})
	}
	return rows
}

func TestDriftUp(t *testing.T) {
	minusZero := fromBits(negZero)
	rows := []driftRow{
		{[]float32{1, 2, -9}, 0, 0.5, "[3f000000 40000000 00000000] true"},
		{rough(), 2.4, 0.3, "[00000000 40919999 00000000 4114cccd 40d3851f 00000000 00000000 41826667 414e6667 417b3335 4161999b 40accccf] true"},
		{wavy(), 5.5, 1.7, "[00000000 00000000 3f866666 00000000 44783333 446a9f5c 446a328f 44686a3d 4469bd70 44671d70 447e4a3d 447cbd70] true"},
		{heights(), 8.6, 0.1, "[00000000 00000000 40533332 40166662 00000000 41fa6666 41c66666 4187ffff 418e6665 41719996 40f6665d 41ffffff 41d0cccc 418d3332] true"},
		{steep(), 1e18, 3e17, "[5ef17938 5e743fc4 5fc2fba1 5fbed1d1 5f60d1f8 5f4ec771] true"},
		{tiny(), fromBits(2), fromBits(1), "[00000000 007ffffc 007ffff6 00fffff4 00ffffef] true"},
		{[]float32{7}, 3, 1.5, "[40200000] true"},
		{[]float32{7}, 9, 1.5, "[00000000] true"},
		{placesOf(impl.MaxLong), 40, 0.25, "[00000000 00000000 00000000 00000000 00000000 00000000 00000000 00000000 00000000 00000000 00000000 00000000 00000000 00000000 00000000 00000000 00000000 00000000 00000000 00000000 00000000 00000000 00000000 00000000 00000000 00000000 00000000 00000000 00000000 00000000 00000000 00000000 00000000 00000000 00000000 00000000 00000000 00000000 00000000 00000000 00000000 3f400000 40200000 40a80000 41100000 415c0000 419c0000 41d20000 42080000 422b0000 42520000 427d0000 42960000 42af8000 42cb0000 42e88000 43040000 4314c000 43268000 43394000 434d0000 4361c000 43778000 43872000 43930000 439f6000 43ac4000 43b9a000 43c78000 43d5e000 43e4c000 43f42000 44020000 440a3000 4412a000 441b5000 44244000 442d7000 4436e000 44409000 444a8000 4454b000 445f2000 4469d000 4474c000 447ff000 4485b000 448b8800 44918000 44979800 449dd000 44a42800 44aaa000 44b13800 44b7f000 44bec800] true"},
		{placesOf(impl.MaxLong + 1), 40, 0.25, "[] false"},
		// A slack of 0, and series that never change.
		{rough(), 2.4, 0, "[00000000 409b3333 00000000 4119999a 40e6b853 00000000 00000000 4184cccd 41580000 4184cccd 4174ccce 40dccccf] true"},
		{rough(), 2.4, minusZero, "[00000000 409b3333 00000000 4119999a 40e6b853 00000000 00000000 4184cccd 41580000 4184cccd 4174ccce 40dccccf] true"},
		{repeated(float32(0.3), 9), 0.3, 0, "[00000000 00000000 00000000 00000000 00000000 00000000 00000000 00000000 00000000] true"},
		{repeated(float32(0.3), 9), 0.1, 0, "[3e4cccce 3ecccccd 3f19999a 3f4ccccd 3f800000 3f999999 3fb33333 3fcccccd 3fe66667] true"},
		{repeated(float32(0.3), 9), 0.1, 0.2, "[32800000 32800000 32800000 32800000 32800000 32800000 32800000 32800000 32800000] true"},
		// A sum of just 0, and zeros of both signs.
		{[]float32{3, 1, 2}, 2, 1, "[00000000 00000000 00000000] true"},
		{[]float32{minusZero, minusZero}, minusZero, minusZero, "[00000000 00000000] true"},
		{[]float32{minusZero, 0}, 0, minusZero, "[00000000 00000000] true"},
		// Each step is rounded, from left to right.
		{[]float32{1e8, 5, 5, 5}, 1e8, 3, "[00000000 00000000 00000000 00000000] true"},
		{[]float32{2e8, 3, 3, 3}, 1e8, 3, "[4cbebc20 00000000 00000000 00000000] true"},
		{[]float32{0.1, 0.7, 0.3, 0.9}, 0.2, 0.1, "[00000000 3ecccccd 3ecccccf 3f800000] true"},
		// A number is not finite, or is so only on its way.
		{[]float32{3e38, 3e38}, 0, 0, "[] false"},
		{[]float32{3e38, 3e38}, 3e38, 0, "[00000000 00000000] true"},
		{[]float32{3e38, 1}, -3e38, 0, "[] false"},
		{[]float32{-3e38, 1}, 3e38, 0, "[00000000 00000000] true"},
		{[]float32{-3e38, -3e38}, 3e38, 3e38, "[00000000 00000000] true"},
		{[]float32{3e38, 3e38}, 0, 3e38, "[00000000 00000000] true"},
		{[]float32{3e38, 3e38}, 0, 1e38, "[] false"},
		{[]float32{1.6e38, 1.6e38}, 0, 0, "[7ef0bdc2 7f70bdc2] true"},
		{[]float32{1.6e38, 1.6e38, 1.6e38}, 0, 0, "[] false"},
	}
	for _, row := range append(rows, wrongDrifts()...) {
		sums, ok := impl.DriftUp(row.a, row.mean, row.slack)
		expect(t, "drift up of "+shown(row.a, row.mean, row.slack), shown(sums, ok), row.want)
	}
}

func TestDriftDown(t *testing.T) {
	minusZero := fromBits(negZero)
	rows := []driftRow{
		{[]float32{1, -2, -2}, 0, 0.5, "[00000000 3fc00000 40400000] true"},
		{rough(), 2.4, 0.3, "[3fccccce 00000000 40accccc 00000000 4005c290 414970a3 4147d70a 00000000 40333334 00000000 3f800000 41119999] true"},
		{wavy(), 5.5, 1.7, "[3f333334 40e66666 402fffff 40c80000 00000000 424ba3d7 4244d70a 4253c28f 4230f5c2 424d5c28 00000000 40333333] true"},
		{heights(), 8.6, 0.1, "[40acccce 41566667 411e6666 412a6666 41906666 00000000 40c9999b 415e6668 414e6668 41766668 41b4ccce 00000000 40b66667 415f3334] true"},
		{steep(), 1e18, 3e17, "[00000000 5e4d6429 00000000 00000000 5f147e0a 5f1e34f1] true"},
		{tiny(), fromBits(2), fromBits(1), "[00000000 00000000 00000004 00000000 00000003] true"},
		{[]float32{7}, 9, 1.5, "[3f000000] true"},
		{[]float32{7}, 3, 1.5, "[00000000] true"},
		{placesOf(impl.MaxLong), 40, 0.25, "[421f0000 429d0000 42e88000 43190000 433cc000 435f8000 4380a000 43910000 43a0e000 43b04000 43bf2000 43cd8000 43db6000 43e8c000 43f5a000 44010000 4406f000 440ca000 44121000 44174000 441c3000 4420e000 44255000 44298000 442d7000 44312000 44349000 4437c000 443ab000 443d6000 443fd000 44420000 4443f000 4445a000 44471000 44484000 44493000 4449e000 444a5000 444a8000 444a7000 444a2000 44499000 4448c000 4447b000 44466000 4444d000 44430000 4440f000 443ea000 443c1000 44394000 44363000 4432e000 442f5000 442b8000 44277000 44232000 441e9000 4419c000 4414b000 440f6000 4409d000 44040000 43fbe000 43ef4000 43e22000 43d48000 43c66000 43b7c000 43a8a000 43990000 4388e000 43708000 434e4000 432b0000 4306c000 42c30000 426d0000 41a00000 00000000 00000000 00000000 00000000 00000000 00000000 00000000 00000000 00000000 00000000 00000000 00000000 00000000 00000000 00000000 00000000] true"},
		{placesOf(impl.MaxLong + 1), 40, 0.25, "[] false"},
		// A slack of 0, and series that never change.
		{rough(), 2.4, 0, "[3ff33334 00000000 40b66666 00000000 4018f5c3 41530a3d 41563d71 00000000 40466667 00000000 3fa66667 411b3334] true"},
		{rough(), 2.4, minusZero, "[3ff33334 00000000 40b66666 00000000 4018f5c3 41530a3d 41563d71 00000000 40466667 00000000 3fa66667 411b3334] true"},
		{repeated(float32(0.3), 9), 0.3, 0, "[00000000 00000000 00000000 00000000 00000000 00000000 00000000 00000000 00000000] true"},
		{repeated(float32(0.3), 9), 0.5, 0, "[3e4ccccc 3ecccccc 3f199999 3f4ccccb 3f7fffff 3f99999a 3fb33334 3fccccce 3fe66668] true"},
		{repeated(float32(0.3), 9), 0.5, 0.2, "[00000000 00000000 00000000 00000000 00000000 00000000 00000000 00000000 00000000] true"},
		// A sum of just 0, and zeros of both signs.
		{[]float32{1, 3, 2}, 2, 1, "[00000000 00000000 00000000] true"},
		{[]float32{minusZero, minusZero}, minusZero, minusZero, "[00000000 00000000] true"},
		{[]float32{0, minusZero}, minusZero, 0, "[00000000 00000000] true"},
		// Each step is rounded, from left to right.
		{[]float32{1e8, 5, 5, 5}, 1e8, 3, "[00000000 4cbebc1f 4d3ebc20 4d8f0d18] true"},
		{[]float32{1, 3, 3, 3}, 1e8, 3, "[4cbebc20 4d3ebc20 4d8f0d18 4dbebc20] true"},
		{[]float32{0.1, 0.7, 0.3, 0.9}, 0.8, 0.1, "[3f199999 3f199999 3f7ffffe 3f4ccccc] true"},
		// A number is not finite, or is so only on its way.
		{[]float32{-3e38, -3e38}, 0, 0, "[] false"},
		{[]float32{3e38, 3e38}, 3e38, 0, "[00000000 00000000] true"},
		{[]float32{-3e38, 1}, 3e38, 0, "[] false"},
		{[]float32{3e38, 1}, -3e38, 0, "[00000000 00000000] true"},
		{[]float32{3e38, 3e38}, -3e38, 3e38, "[00000000 00000000] true"},
		{[]float32{-3e38, -3e38}, 0, 3e38, "[00000000 00000000] true"},
		{[]float32{-3e38, -3e38}, 0, 1e38, "[] false"},
		{[]float32{1, 1}, 1.6e38, 0, "[7ef0bdc2 7f70bdc2] true"},
		{[]float32{1, 1, 1}, 1.6e38, 0, "[] false"},
	}
	for _, row := range append(rows, wrongDrifts()...) {
		sums, ok := impl.DriftDown(row.a, row.mean, row.slack)
		expect(t, "drift down of "+shown(row.a, row.mean, row.slack), shown(sums, ok), row.want)
	}
}

type driftAtRow struct {
	a                []float32
	mean, slack, bar float32
	want             string
}

func TestDriftAt(t *testing.T) {
	rows := []driftAtRow{
		{[]float32{1, 2, -9}, 0, 0.5, 1.5, "1 true"},
		{[]float32{1}, 0, 0, 9, "-1 true"},
		{rough(), 2.4, 0.3, 3, "1 true"},
		{rough(), 2.4, 0.3, 12, "5 true"},
		{rough(), 2.4, 0.3, 100, "-1 true"},
		{wavy(), 5.5, 1.7, 8, "4 true"},
		{wavy(), 5.5, 1.7, 50, "4 true"},
		{placesOf(impl.MaxLong), 40, 0.25, 800, "35 true"},
		{placesOf(impl.MaxLong), 40, 0.25, 900, "83 true"},
		{placesOf(impl.MaxLong), 40, 0.25, 3000, "-1 true"},
		{placesOf(impl.MaxLong + 1), 40, 0.25, 3000, "0 false"},
		// A drift up alone, a drift down alone, and both of them, one earlier than the other.
		{[]float32{5, 5, 5}, 3, 0.5, 2, "1 true"},
		{[]float32{1, 1, 1}, 3, 0.5, 2, "1 true"},
		{[]float32{3, 9, -9}, 3, 0.5, 4, "1 true"},
		{[]float32{3, -9, 9}, 3, 0.5, 4, "1 true"},
		// A bar that is reached exactly, is 0, or is less.
		{[]float32{1, 2, -9}, 0, 0.5, 0.5, "1 true"},
		{[]float32{1, 2, -9}, 0, 0.5, 2, "2 true"},
		{[]float32{1, 2, -9}, 0, 0.5, fromBits(0x3fffffff), "1 true"},
		{[]float32{1, 2, -1}, 0, 0.5, 2, "-1 true"},
		{[]float32{-1, -2}, 0, 0.5, 2, "-1 true"},
		{[]float32{-1, -2}, 0, 0.5, fromBits(0x3fffffff), "1 true"},
		{[]float32{3, 3, 3.5}, 3, 0, 0, "2 true"},
		{[]float32{3, 3, 2.5}, 3, 0, 0, "2 true"},
		{[]float32{3, 3, 3}, 3, 0, 0, "-1 true"},
		{[]float32{3, 3, 3.5}, 3, 0, fromBits(negZero), "2 true"},
		{[]float32{3, 3, 3.5}, 3, 0, -fromBits(1), "0 false"},
		{[]float32{3, 3, 3.5}, 3, 0, -1, "0 false"},
		// A sum of either one is not finite, behind a drift that was told.
		{[]float32{1, 3e38, 3e38}, 0, 0, 0.5, "0 false"},
		{[]float32{-1, -3e38, -3e38}, 0, 0, 0.5, "0 false"},
		{[]float32{1, 3e38, -3e38}, 0, 0, 0.5, "0 true"},
		{[]float32{1, 3e38}, 0, 0, 3e38, "-1 true"},
		{[]float32{1, 3e38}, 0, 0, 2e38, "1 true"},
	}
	for _, row := range wrongDrifts() {
		rows = append(rows, driftAtRow{row.a, row.mean, row.slack, 1, "0 false"}, driftAtRow{row.a, row.mean, row.slack, 0, "0 false"})
	}
	for _, x := range wrongNumbers() {
		rows = append(rows, driftAtRow{[]float32{1, 2}, 0, 0, x, "0 false"})
	}
	for _, row := range rows {
		at, ok := impl.DriftAt(row.a, row.mean, row.slack, row.bar)
		expect(t, "drift of "+shown(row.a, row.mean, row.slack, row.bar), shown(at, ok), row.want)
	}
}

type chartRow struct {
	a                  []float32
	share, mean, width float32
	want               string
}

func chartRows() []chartRow {
	minusZero := fromBits(negZero)
	return []chartRow{
		{[]float32{4, 0}, 0.5, 0, 1.5, "[0] true"},
		{rough(), 0.3, 2.4, 1, "[1 3 5 6 7 8 9 10 11] true"},
		{rough(), 0.3, 2.4, 2.5, "[5 7] true"},
		{rough(), 0.7, 2.4, 4, "[3 5 7 11] true"},
		{wavy(), 0.2, 5.5, 100, "[4 5 6] true"},
		{heights(), 0.1, 8.6, 0.5, "[0 1 2 3 4 5 6 10 11 12] true"},
		{heights(), 0.1, 8.6, 1.5, "[4 5 11] true"},
		{steep(), 0.4, 1e18, 3e18, "[0 2 3] true"},
		{tiny(), 0.5, 0, fromBits(0x1000), "[1 2 3 4] true"},
		{placesOf(impl.MaxLong), 0.05, 40, 20, "[78 79 80 81 82 83 84 85 86 87 88 89 90 91 92 93 94 95] true"},
		{placesOf(impl.MaxLong + 1), 0.05, 40, 20, "[] false"},
		{[]float32{7}, 0.5, 3, 1.5, "[0] true"},
		{[]float32{7}, 0.5, 3, 2.5, "[] true"},
		// Shares of 0 and 1, and beyond.
		{rough(), 0, 2.4, 0, "[] true"},
		{rough(), minusZero, 2.4, 0, "[] true"},
		{rough(), 1, 2.4, 5, "[2 3 5 7 11] true"},
		{rough(), fromBits(0x3f800001), 2.4, 5, "[] false"},
		{rough(), -fromBits(1), 2.4, 5, "[] false"},
		{rough(), 2, 2.4, 5, "[] false"},
		{rough(), -1, 2.4, 5, "[] false"},
		// Widths that are reached exactly, are 0, or are less.
		{[]float32{4, 0}, 0.5, 0, 2, "[] true"},
		{[]float32{4, 0}, 0.5, 0, fromBits(0x3fffffff), "[0] true"},
		{[]float32{-4, 0}, 0.5, 0, 2, "[] true"},
		{[]float32{-4, 0}, 0.5, 0, fromBits(0x3fffffff), "[0] true"},
		{[]float32{3, 3, 4, 2, 3}, 1, 3, 0, "[2 3] true"},
		{[]float32{3, 3, 4, 2, 3}, 0.5, 3, 0, "[2 3 4] true"},
		{[]float32{3, 3, 4, 2, 3}, 0.5, 3, minusZero, "[2 3 4] true"},
		{[]float32{3, 3, 4, 2, 3}, 0.5, 3, -fromBits(1), "[] false"},
		{[]float32{3, 3, 4, 2, 3}, 0.5, 3, -1, "[] false"},
		{repeated(float32(0.3), 9), 0.7, 0.3, 0, "[] true"},
		{repeated(float32(0.3), 9), 0.7, 0.1, 0.19, "[2 3 4 5 6 7 8] true"},
		// The rounding of each step decides.
		{[]float32{0.1, 0.7, 0.3, 0.9, 0.2}, 0.3, 0.4, 0.09, "[3] true"},
		{[]float32{16777216, 1, 1, 1}, 0.5, 0, 2097152, "[0 1 2] true"},
		// The level, which is not returned, becomes infinite, and then no number.
		{[]float32{3e38, 3e38, 1}, 0.5, -3e38, 1, "[0] true"},
		{[]float32{3e38, 1, 1}, 0, -3e38, 1, "[] true"},
		{[]float32{-3e38, -3e38}, 1, 3e38, 1, "[0] true"},
		{[]float32{3e38, -3e38}, 0.5, 0, 1e38, "[0 1] true"},
		{[]float32{3e38, 3e38}, 0.75, 3e38, 0, "[] true"},
		{[]float32{3e38, 1}, 0.5, -2e37, 3e38, "[] true"},
		{[]float32{3e38, 1}, 1, -1e38, 3e38, "[0] true"},
	}
}

func TestSmoothChart(t *testing.T) {
	rows := chartRows()
	for _, x := range wrongNumbers() {
		for place := range 3 {
			by := []float32{0.5, 1, 1}
			by[place] = x
			rows = append(rows, chartRow{rough(), by[0], by[1], by[2], noNumbers})
		}
	}
	for _, share := range wrongShareNumbers() {
		rows = append(rows, chartRow{rough(), share, 1, 1, noNumbers})
	}
	for _, wrong := range wrongSeries() {
		rows = append(rows, chartRow{wrong, 0.5, 0, 0, noNumbers}, chartRow{wrong, 0, 0, 1, noNumbers})
	}
	for _, row := range rows {
		far, ok := impl.SmoothChart(row.a, row.share, row.mean, row.width)
		expect(t, "chart of "+shown(row.a, row.share, row.mean, row.width), shown(far, ok), row.want)
		if ok && !slices.IsSorted(far) {
			t.Errorf("chart of %s: %s does not ascend", shown(row.a), shown(far))
		}
	}
}
