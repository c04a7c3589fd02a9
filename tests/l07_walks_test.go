package tests

import (
	"testing"

	"loop.example/g01375/impl"
)

type walkRow struct {
	up, down float32
	bar      int64
	want     string
}

// wrongWalks have chances, or a bar, that are wrong.
func wrongWalks() []walkRow {
	minusZero := fromBits(negZero)
	rows := []walkRow{
		// Ups of 0 and less, and downs that are less than 0.
		{0, 0, 3, noNumber}, {0, 0.5, 3, noNumber}, {minusZero, 0.5, 3, noNumber}, {-fromBits(1), 0.5, 3, noNumber}, {-1, 1, 3, noNumber}, {-0.5, 0.5, 1, noNumber},
		{0.5, -fromBits(1), 3, noNumber}, {0.5, -0.25, 3, noNumber}, {1.5, -0.5, 3, noNumber}, {1, -1, 1, noNumber},
		// Sums that are just more than 1, and more.
		{fromBits(0x3f800001), 0, 3, noNumber}, {1, fromBits(0x33800001), 3, noNumber}, {0.5, fromBits(0x3f000002), 3, noNumber}, {fromBits(0x3f000002), 0.5, 3, noNumber},
		{0.6, 0.6, 1, noNumber}, {2, 0, 1, noNumber}, {0.5, 3e38, 3, noNumber}, {3e38, 3e38, 3, noNumber},
	}
	for _, bar := range append(farInts(), 0, impl.MaxBar+1, 1000) {
		rows = append(rows, walkRow{0.5, 0.25, bar, noNumber}, walkRow{1, 0, bar, noNumber})
	}
	for _, x := range wrongNumbers() {
		rows = append(rows, walkRow{x, 0.25, 3, noNumber}, walkRow{0.5, x, 3, noNumber}, walkRow{x, x, 1, noNumber}, walkRow{1, x, 1, noNumber})
	}
	return rows
}

func TestRunLong(t *testing.T) {
	rows := []walkRow{
		{1, 0, 3, "40400000 true"},
		{0.5, 0.5, 2, "40c00000 true"},
		{0.5, 0.25, 3, "41080000 true"},
		{0.3, 0.1, 5, "41b41511 true"},
		{0.1, 0.3, 5, "44dfc000 true"},
		{0.1, 0.9, 7, "4acd4330 true"},
		{0.7, 0.2, impl.MaxBar - 1, "41e9999a true"},
		{0.01, 0.02, 9, "47c5da00 true"},
		{0.333, 0.667, 10, "45c11986 true"},
		// Bars of 1 and MaxBar.
		{0.3, 0.1, 1, "40555555 true"},
		{0.3, 0.7, 1, "40555555 true"},
		{1, 0, 1, "3f800000 true"},
		{1, 0, impl.MaxBar, "41800000 true"},
		{0.3, 0.1, impl.MaxBar, "429affff true"},
		{0.1, 0.7, impl.MaxBar, "566b15ab true"},
		{0.1, 0.7, impl.MaxBar + 1, "00000000 false"},
		{0.1, 0.7, 0, "00000000 false"},
		// Downs of 0, and sums of just 1, also where they are so by rounding.
		{0.3, 0, 4, "41555555 true"},
		{0.3, fromBits(negZero), 4, "41555555 true"},
		{0.25, 0.75, 4, "43680000 true"},
		{1, fromBits(1), 4, "40800000 true"},
		{1, 1e-10, 4, "40800000 true"},
		{1, fromBits(0x33800000), 4, "40800000 true"},
		{0.5, fromBits(0x3f000001), 3, "41400000 true"},
		{fromBits(0x3f000001), 0.5, 3, "413ffffe true"},
		{1e-10, 1, 2, "60ad78ec true"},
		// A number is not finite, or only just is.
		{fromBits(1), 0, 1, "00000000 false"},
		{fromBits(0x200000), 0, 1, "00000000 false"},
		{fromBits(0x200001), 0, 1, "7f7ffff8 true"},
		{fromBits(0x400001), 0, 2, "7f7ffffc true"},
		{fromBits(0x400000), 0, 2, "00000000 false"},
		{1e-4, 0.9, 9, "7aa5d8c7 true"},
		{1e-4, 0.9, 10, "00000000 false"},
		{1e-4, 0.9, impl.MaxBar, "00000000 false"},
		{1e-38, 0.5, 1, "7e96769a true"},
		{1e-38, 0.5, 2, "00000000 false"},
		{1e-20, 0.5, 2, "00000000 false"},
		{1e-19, 0.5, 2, "7e16769a true"},
	}
	for _, row := range append(rows, wrongWalks()...) {
		long, ok := impl.RunLong(row.up, row.down, row.bar)
		expect(t, "how long is a walk with "+shown(row.up, row.down, row.bar), shown(long, ok), row.want)
	}
}

type chanceRow struct {
	up, down   float32
	bar, steps int64
	want       string
}

func TestRunChance(t *testing.T) {
	rows := []chanceRow{
		{0.5, 0, 1, 2, "3f400000 true"},
		{0.5, 0.25, 2, 3, "3ee00000 true"},
		{0.5, 0.5, 2, 4, "3f000000 true"},
		{0.5, 0.5, 3, 4, "3e400000 true"},
		{0.3, 0.1, 5, 20, "3f07f39a true"},
		{0.1, 0.3, 5, 20, "3b8dd813 true"},
		{0.333, 0.667, 10, 200, "3cee219f true"},
		{0.7, 0.2, impl.MaxBar - 1, 31, "3f2bc90b true"},
		{0.01, 0.02, 4, 256, "3d60f7a5 true"},
		{0.9, 0.1, 3, 256, "3f7fffff true"},
		// Bars of 1 and MaxBar, and steps that are too few, just enough, and one more.
		{0.3, 0.1, 1, 1, "3e99999a true"},
		{0.3, 0.7, 1, 7, "3f6aead5 true"},
		{0.3, 0.1, 2, 1, "00000000 true"},
		{0.3, 0.1, 2, 2, "3db851ec true"},
		{0.3, 0.1, 2, 3, "3e53f7cf true"},
		{0.3, 0.1, impl.MaxBar, impl.MaxBar - 1, "00000000 true"},
		{0.3, 0.1, impl.MaxBar, impl.MaxBar, "3193e852 true"},
		{0.3, 0.1, impl.MaxBar, impl.MaxBar + 1, "3345d387 true"},
		{0.3, 0.1, impl.MaxBar, 256, "3f7ffe3c true"},
		{0.3, 0.6, impl.MaxBar, 256, "3a019711 true"},
		{0.3, 0.1, impl.MaxBar + 1, 100, "00000000 false"},
		{0.3, 0.1, 0, 100, "00000000 false"},
		{1, 0, 3, 2, "00000000 true"},
		{1, 0, 3, 3, "3f800000 true"},
		{1, 0, 3, 4, "3f800000 true"},
		{1, 0, impl.MaxBar, impl.MaxBar, "3f800000 true"},
		{1, 0, impl.MaxBar, 256, "3f800000 true"},
		// Steps of 0, 256, -1 and 257.
		{0.3, 0.1, 2, 0, "00000000 true"},
		{1, 0, 1, 0, "00000000 true"},
		{0.3, 0.1, 2, 255, "3f7ffffa true"},
		{0.3, 0.1, 2, 256, "3f7ffffa true"},
		{0.3, 0.1, 2, 257, "00000000 false"},
		{0.3, 0.1, 2, -1, "00000000 false"},
		// Downs of 0, and sums of just 1, also where they are so by rounding.
		{0.3, 0, 4, 10, "3eb3663a true"},
		{0.3, fromBits(negZero), 4, 10, "3eb3663a true"},
		{0.25, 0.75, 4, 30, "3de04b67 true"},
		{1, fromBits(1), 4, 9, "3f800000 true"},
		{1, 1e-10, 4, 9, "3f800000 true"},
		{1, fromBits(0x33800000), 4, 9, "3f800000 true"},
		{0.5, fromBits(0x3f000001), 3, 50, "3f7e4d01 true"},
		{fromBits(0x3f000001), 0.5, 3, 50, "3f7e4d02 true"},
		{fromBits(0x33800000), 1, 3, 9, "1cdfffff true"},
		{fromBits(1), 0.5, 1, 100, "00000064 true"},
		{fromBits(1), 0.5, 2, 100, "00000000 true"},
		{1e-30, 1e-30, 1, 5, "0ecad2f8 true"},
	}
	for _, row := range wrongWalks() {
		for _, steps := range []int64{0, 1, 256} {
			rows = append(rows, chanceRow{row.up, row.down, row.bar, steps, noNumber})
		}
	}
	for _, steps := range append(farInts(), 1000) {
		rows = append(rows, chanceRow{0.3, 0.1, 2, steps, noNumber})
	}
	for _, row := range rows {
		chance, ok := impl.RunChance(row.up, row.down, row.bar, row.steps)
		expect(t, "the chance of a walk with "+shown(row.up, row.down, row.bar, row.steps), shown(chance, ok), row.want)
	}
}
