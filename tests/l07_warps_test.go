package tests

import (
	"testing"

	"loop.example/g01375/impl"
)

// The bits in the tests of chapter 7 were computed outside of Go, each
// operation rounded on its own.

func TestShapeLimits(t *testing.T) {
	expect(t, "limits", shown(impl.MaxShapes, impl.MaxSigns, impl.MaxBar, impl.MaxSaved), "16 16 16 8")
}

func TestFarOfShapes(t *testing.T) {
	minusZero := fromBits(negZero)
	type farRow struct {
		a, b []float32
		want string
	}
	rows := []farRow{
		{[]float32{0, 0}, []float32{3, 4}, "40a00000 true"},
		{[]float32{1, 2}, []float32{1, 3}, "3f800000 true"},
		{[]float32{7}, []float32{-2.5}, "41180000 true"},
		{rough(), wavy(), "447b87f3 true"},
		{wavy(), rough(), "447b87f3 true"},
		{tiny(), []float32{0.1, 0.2, 0.3, 0.4, 0.5}, "3f3ddacd true"},
		{steep(), []float32{1e18, 2e18, 3e18, 4e18, 5e18, 6e18}, "00000000 false"},
		{wholeNumbers(impl.MaxLong), placesOf(impl.MaxLong), "49061c06 true"},
		{wholeNumbers(impl.MaxLong + 1), placesOf(impl.MaxLong + 1), "00000000 false"},
		{repeated(float32(0.1), impl.MaxLong), repeated(float32(0.7), impl.MaxLong), "40bc1ef2 true"},
		// The order of the sum: each 1 is lost behind the great square.
		{[]float32{4096, 1, 1, 1, 1, 1, 1, 1, 1, 1, 1, 1, 1, 1, 1, 1, 1}, repeated(float32(0), 17), "45800000 true"},
		{[]float32{1, 1, 1, 1, 1, 1, 1, 1, 1, 1, 1, 1, 1, 1, 1, 1, 4096}, repeated(float32(0), 17), "45800004 true"},
		// A root that is 0: of the same series, and of squares that are rounded to 0.
		{rough(), rough(), "00000000 true"},
		{[]float32{minusZero, 0}, []float32{0, minusZero}, "00000000 true"},
		{[]float32{1e-23}, []float32{0}, "00000000 true"},
		{[]float32{3e-23}, []float32{0}, "1a3504f3 true"},
		{[]float32{1e-23, 1e-23, 1e-23}, []float32{0, 0, 0}, "00000000 true"},
		{tiny(), repeated(float32(0), 5), "00000000 true"},
		// A difference, a square, or the sum is too great, or only just is not.
		{[]float32{3e38}, []float32{-3e38}, "00000000 false"},
		{[]float32{3e38, 1}, []float32{3e38, 2}, "3f800000 true"},
		{[]float32{2e19}, []float32{0}, "00000000 false"},
		{[]float32{1.8e19}, []float32{0}, "5f79ccd9 true"},
		{[]float32{1.8e19, 1.8e19}, []float32{0, 0}, "00000000 false"},
		{[]float32{1.8e19, 4e18}, []float32{0, 0}, "5f7fe4ce true"},
		// Different lengths.
		{[]float32{1, 2}, []float32{1}, "00000000 false"},
		{[]float32{1}, []float32{1, 2}, "00000000 false"},
		{[]float32{1}, nil, "00000000 false"},
		{nil, []float32{1}, "00000000 false"},
		{nil, nil, "00000000 false"},
	}
	for _, wrong := range wrongSeries() {
		rows = append(rows, farRow{wrong, wrong, noNumber}, farRow{wrong, []float32{1, 2, 3}, noNumber}, farRow{[]float32{1}, wrong, noNumber}, farRow{[]float32{1, 2, 3}, wrong, noNumber})
	}
	for _, row := range rows {
		far, ok := impl.FarOfShapes(row.a, row.b)
		expect(t, "how far are "+shown(row.a, row.b), shown(far, ok), row.want)
	}
}

func TestNormShape(t *testing.T) {
	minusZero := fromBits(negZero)
	type normRow struct {
		a    []float32
		want string
	}
	rows := []normRow{
		{[]float32{1, 3}, "[bf800000 3f800000] true"},
		{[]float32{5, 1, 3, 3}, "[3fb504f3 bfb504f3 00000000 00000000] true"},
		{rough(), "[be872ef1 3f28cdd8 bf48ac7b 3fa7940e bea98129 bfbda456 bd00e126 401113b4 bedb3c36 3ed70858 be3a509d bf939db4] true"},
		{wavy(), "[bea0adbf beab6db8 be97222e bea5de49 4052e042 befdbd51 be9c3aff bea64b6a be8f41a5 beac8a69 3d15de57 bea49226] true"},
		{steep(), "[] false"},
		{[]float32{0.1, 0.7, 0.3}, "[bf88d678 3fab0c14 be88d677] true"},
		{placesOf(impl.MaxLong), "[bfdb67ae bfd6c934 bfd22aba bfcd8c40 bfc8edc5 bfc44f4b bfbfb0d1 bfbb1257 bfb673dd bfb1d562 bfad36e8 bfa8986e bfa3f9f4 bf9f5b79 bf9abcff bf961e85 bf91800b bf8ce190 bf884316 bf83a49c bf7e0c43 bf74cf4f bf6b925a bf625566 bf591871 bf4fdb7d bf469e88 bf3d6194 bf34249f bf2ae7ab bf21aab6 bf186dc2 bf0f30cd bf05f3d9 bef96dc9 bee6f3e0 bed479f7 bec2000e beaf8625 be9d0c3c be8a9253 be7030d5 be4b3d03 be264931 be01555f bdb8c31a bd5db6ec bc93cf48 3c93cf48 3d5db6ec 3db8c31a 3e01555f 3e264931 3e4b3d03 3e7030d5 3e8a9253 3e9d0c3c 3eaf8625 3ec2000e 3ed479f7 3ee6f3e0 3ef96dc9 3f05f3d9 3f0f30cd 3f186dc2 3f21aab6 3f2ae7ab 3f34249f 3f3d6194 3f469e88 3f4fdb7d 3f591871 3f625566 3f6b925a 3f74cf4f 3f7e0c43 3f83a49c 3f884316 3f8ce190 3f91800b 3f961e85 3f9abcff 3f9f5b79 3fa3f9f4 3fa8986e 3fad36e8 3fb1d562 3fb673dd 3fbb1257 3fbfb0d1 3fc44f4b 3fc8edc5 3fcd8c40 3fd22aba 3fd6c934 3fdb67ae] true"},
		{placesOf(impl.MaxLong + 1), "[] false"},
		// The order of the sums.
		{[]float32{1e8, 1, -1e8}, "[3f9cc470 325268d8 bf9cc470] true"},
		{[]float32{1e8, -1e8, 1}, "[3f9cc470 bf9cc470 320c45e5] true"},
		{[]float32{4096, 1, 2, 3, 4, 5, 6, 7, 8}, "[403504e3 beb669a9 beb603b9 beb59dca beb537db beb4d1eb beb46bfc beb4060c beb3a01d] true"},
		{[]float32{8, 7, 6, 5, 4, 3, 2, 1, 4096}, "[beb3a01d beb4060c beb46bfc beb4d1eb beb537db beb59dca beb603b9 beb669a9 403504e3] true"},
		// Series that never change, of which some differ from their rounded mean.
		{[]float32{7}, "[] false"},
		{[]float32{0}, "[] false"},
		{[]float32{2, 2}, "[] false"},
		{[]float32{minusZero, 0}, "[] false"},
		{repeated(float32(5), impl.MaxLong), "[] false"},
		{repeated(float32(0.1), impl.MaxLong), "[] false"},
		{repeated(float32(0.1), 7), "[bf800000 bf800000 bf800000 bf800000 bf800000 bf800000 bf800000] true"},
		{repeated(float32(0.3), 6), "[3f800000 3f800000 3f800000 3f800000 3f800000 3f800000] true"},
		{repeated(float32(0.3), 5), "[] false"},
		{repeated(float32(7.3), 3), "[bf800000 bf800000 bf800000] true"},
		// A root that is 0, though the series changes, or only just is not.
		{[]float32{1e-23, -1e-23}, "[] false"},
		{[]float32{1e-22, -1e-22}, "[3f813d57 bf813d57] true"},
		{[]float32{5e-23, -5e-23, 2e-23}, "[3f942c16 bfc1c37f 3eb65da5] true"},
		{tiny(), "[] false"},
		{[]float32{fromBits(1), 0}, "[] false"},
		// A sum, a difference, a square or the sum of squares is too great, or only just is not.
		{[]float32{3e38, 3e38}, "[] false"},
		{[]float32{3e38, -3e38, 1}, "[] false"},
		{[]float32{3e38, -3e38, -3e38}, "[] false"},
		{[]float32{2e19, -2e19}, "[] false"},
		{[]float32{1.8e19, -1.8e19}, "[] false"},
		{[]float32{1.2e19, -1.2e19}, "[3f800000 bf800000] true"},
		{[]float32{1.2e19, -1.2e19, 3}, "[3f9cc471 bf9cc471 2070fcbe] true"},
	}
	for _, wrong := range wrongSeries() {
		rows = append(rows, normRow{wrong, noNumbers})
	}
	for _, row := range rows {
		norm, ok := impl.NormShape(row.a)
		expect(t, "norm of "+shown(row.a), shown(norm, ok), row.want)
	}
}

type warpRow struct {
	a, b   []float32
	window int64
	want   string
}

// wrongWarps have a series, or a window, that is wrong.
func wrongWarps(want string) []warpRow {
	rows := []warpRow{{[]float32{1}, nil, 1, want}, {nil, []float32{1}, 1, want}}
	for _, window := range append(farInts(), -1, impl.MaxLong+1, impl.MaxLong+2) {
		rows = append(rows, warpRow{[]float32{1, 2}, []float32{1, 2}, window, want}, warpRow{[]float32{1}, []float32{1}, window, want}, warpRow{rough(), wavy(), window, want})
	}
	for _, wrong := range wrongSeries() {
		rows = append(rows, warpRow{wrong, wrong, 5, want}, warpRow{wrong, []float32{1, 2, 3}, 5, want}, warpRow{[]float32{1, 2, 3}, wrong, 5, want}, warpRow{[]float32{1}, wrong, impl.MaxLong, want})
	}
	return rows
}

func TestWarpCosts(t *testing.T) {
	minusZero := fromBits(negZero)
	rows := []warpRow{
		{[]float32{1, 2}, []float32{1, 1, 2}, 2, "[00000000 00000000 3f800000 3f800000 3f800000 00000000] true"},
		{[]float32{1, 1, 2}, []float32{1, 2}, 2, "[00000000 3f800000 00000000 3f800000 3f800000 00000000] true"},
		{[]float32{1, 5, 2}, []float32{1.5, 4, 4, 2.25}, 3, "[3f000000 40600000 40d00000 40f80000 40800000 3fc00000 40200000 40a80000 40900000 40600000 40600000 40300000] true"},
		{rough()[:6], wavy()[:4], 3, "[40266666 40b9999a 4158cccd 415c0000 40d80000 4148cccc 40d9999a 415c0000 41526666 40eb3333 4192cccd 41266666 41b06666 41b06666 4131999a 41b0cccc bf800000 41c6147a 419ab852 41363d71 bf800000 bf800000 420ff5c2 41a0b852] true"},
		{wavy()[:4], rough()[:6], 5, "[40266666 40d80000 41526666 41b06666 41c91eb8 42128f5c 40b9999a 4148cccc 40eb3333 41b06666 41c6147a 41f3ae14 4158cccd 40d9999a 4192cccd 4131999a 419ab852 420ff5c2 415c0000 415c0000 41266666 41b0cccc 41363d71 41a0b852] true"},
		{rough(), wavy()[:5], 1, "[40266666 40b9999a bf800000 bf800000 bf800000 40d80000 4148cccc 40d9999a bf800000 bf800000 bf800000 40eb3333 4192cccd 41266666 bf800000 bf800000 bf800000 4131999a 41b0cccc 4479999a bf800000 bf800000 bf800000 41363d71 447cd852 bf800000 bf800000 bf800000 bf800000 447ef290 bf800000 bf800000 bf800000 bf800000 bf800000 bf800000 bf800000 bf800000 bf800000 bf800000 bf800000 bf800000 bf800000 bf800000 bf800000 bf800000 bf800000 bf800000 bf800000 bf800000 bf800000 bf800000 bf800000 bf800000 bf800000 bf800000 bf800000 bf800000 bf800000 bf800000] true"},
		{steep(), tiny(), 2, "[5f0ac723 5f8ac723 5fd02ab4 bf800000 bf800000 5f346947 5f346947 5f5e0b6b 5f83d6c8 bf800000 6003d6c8 6003d6c8 6003d6c8 600e3f51 6018a7da bf800000 60064482 60064482 60064482 6008b23c bf800000 bf800000 6028f64b 6028f64b 6028f64b bf800000 bf800000 bf800000 6028f64b 6028f64b] true"},
		{tiny(), tiny()[1:], 2, "[007ffffe 00800002 01000001 bf800000 007ffffe 01000000 00800004 01000002 01000000 007ffffe 01000001 00800005 bf800000 01000001 007ffffe 01000000 bf800000 bf800000 01000000 007ffffe] true"},
		{[]float32{7}, []float32{4.5}, 0, "[40200000] true"},
		{[]float32{7}, []float32{4.5, 7, 1}, impl.MaxLong, "[40200000 40200000 41080000] true"},
		{[]float32{7, -3, 8}, []float32{4.5}, impl.MaxLong, "[40200000 41200000 41580000] true"},
		// Windows of 0, and ones that leave places without a cost, the last one too.
		{[]float32{1, 2, 3}, []float32{3, 2, 1}, 0, "[40000000 bf800000 bf800000 bf800000 40000000 bf800000 bf800000 bf800000 40800000] true"},
		{[]float32{1, 2, 3}, []float32{3, 2, 1}, 1, "[40000000 40400000 bf800000 40400000 40000000 40400000 bf800000 40400000 40800000] true"},
		{[]float32{1, 2, 3}, []float32{3, 2, 1}, 2, "[40000000 40400000 40400000 40400000 40000000 40400000 40400000 40400000 40800000] true"},
		{[]float32{1, 2, 3}, []float32{3, 2, 1}, impl.MaxLong, "[40000000 40400000 40400000 40400000 40000000 40400000 40400000 40400000 40800000] true"},
		{[]float32{1, 2, 3}, []float32{3, 2, 1}, impl.MaxLong + 1, "[] false"},
		{[]float32{1, 2, 3}, []float32{3, 2, 1}, -1, "[] false"},
		{[]float32{1}, []float32{1, 2, 3}, 1, "[00000000 3f800000 bf800000] true"},
		{[]float32{1}, []float32{1, 2, 3}, 0, "[00000000 bf800000 bf800000] true"},
		{[]float32{1, 2, 3, 4}, []float32{4}, 2, "[40400000 40a00000 40c00000 bf800000] true"},
		{[]float32{1, 2, 3, 4}, []float32{4}, 3, "[40400000 40a00000 40c00000 40c00000] true"},
		{[]float32{9, 1, 2, 3, 4}, []float32{1, 2}, 2, "[41000000 41700000 41000000 41100000 41100000 41000000 bf800000 41100000 bf800000 bf800000] true"},
		// Zeros of both signs cost nothing.
		{[]float32{minusZero, 0}, []float32{0, minusZero}, 1, "[00000000 00000000 00000000 00000000] true"},
		// Each sum is rounded on its way.
		{[]float32{16777216, 1, 0.1}, []float32{0, 0, 0}, 2, "[4b800000 4c000000 4c400000 4b800000 4b800000 4b800000 4b800000 4b800000 4b800000] true"},
		{[]float32{0.1, 1, 16777216}, []float32{0, 0, 0}, 2, "[3dcccccd 3e4ccccd 3e99999a 3f8ccccd 3f8ccccd 3f99999a 4b800001 4b800001 4b800001] true"},
		{[]float32{0.1, 0.2, 0.3, 0.4}, []float32{0.7, 0.11, 0.5, 0.9}, 3, "[3f199999 3f1c28f5 3f8147ae 3fe7ae14 3f8ccccc 3f30a3d6 3f68f5c2 3fce147a 3fbfffff 3f6147ad 3f63d709 3fbeb851 3fe66665 3f95c28f 3f7ae146 3fb1eb84] true"},
		// A difference, or a sum, is too great, or would be so where there is no cost.
		{[]float32{3e38}, []float32{-3e38}, 0, "[] false"},
		{[]float32{3e38, 3e38}, []float32{1, 1}, 0, "[] false"},
		{[]float32{3e38, 3e37}, []float32{1, 1}, 0, "[7f61b1e6 bf800000 bf800000 7f7843b0] true"},
		{[]float32{3e38, 1}, []float32{3e38, 1}, 1, "[00000000 7f61b1e6 7f61b1e6 00000000] true"},
		{[]float32{3e38, 1, 3e38}, []float32{3e38, 1, 3e38}, 2, "[00000000 7f61b1e6 7f61b1e6 7f61b1e6 00000000 7f61b1e6 7f61b1e6 7f61b1e6 00000000] true"},
		{[]float32{3e38, 0, -3e38}, []float32{3e38, 0, -3e38}, 1, "[00000000 7f61b1e6 bf800000 7f61b1e6 00000000 7f61b1e6 bf800000 7f61b1e6 00000000] true"},
		{[]float32{3e38, 0, -3e38}, []float32{3e38, 0, -3e38}, 2, "[] false"},
		{[]float32{3e38, -3e38}, []float32{3e38, -3e38}, 0, "[00000000 bf800000 bf800000 00000000] true"},
		{[]float32{3e38, -3e38}, []float32{3e38, -3e38}, 1, "[] false"},
	}
	for _, row := range append(rows, wrongWarps(noNumbers)...) {
		costs, ok := impl.WarpCosts(row.a, row.b, row.window)
		expect(t, "costs of "+shown(row.a, row.b, row.window), shown(costs, ok), row.want)
	}
}

func TestWarpFar(t *testing.T) {
	rows := []warpRow{
		{[]float32{1, 2}, []float32{1, 1, 2}, 2, "00000000 true"},
		{[]float32{1, 5, 2}, []float32{1.5, 4, 4, 2.25}, 3, "40300000 true"},
		{rough(), wavy(), 0, "449910f7 true"},
		{rough(), wavy(), 1, "4491c3d7 true"},
		{rough(), wavy(), 3, "4491b0a4 true"},
		{wavy(), rough(), 3, "4491b0a4 true"},
		{rough(), wavy(), impl.MaxLong, "4491b0a4 true"},
		{rough(), wavy()[3:], 3, "4490b148 true"},
		{rough(), wavy()[3:], 2, "00000000 false"},
		{rough()[:5], heights(), 9, "42b48f5c true"},
		{rough()[:5], heights(), 8, "00000000 false"},
		{[]float32{1}, []float32{1, 2, 3}, 1, "00000000 false"},
		{[]float32{1}, []float32{1, 2, 3}, 2, "40400000 true"},
		{[]float32{7}, []float32{4.5}, 0, "40200000 true"},
		{[]float32{7}, []float32{7}, impl.MaxLong, "00000000 true"},
		{tiny(), steep(), 1, "6028f64b true"},
		{tiny(), steep(), 0, "00000000 false"},
		{wholeNumbers(impl.MaxLong), placesOf(impl.MaxLong), impl.MaxLong, "4a8fbb9e true"},
		{wholeNumbers(impl.MaxLong), placesOf(impl.MaxLong), 0, "4a8fcce0 true"},
		{wholeNumbers(impl.MaxLong), placesOf(1), impl.MaxLong - 1, "4a8ff080 true"},
		{wholeNumbers(impl.MaxLong), placesOf(1), impl.MaxLong - 2, "00000000 false"},
		{placesOf(1), wholeNumbers(impl.MaxLong), impl.MaxLong, "4a8ff080 true"},
		{wholeNumbers(impl.MaxLong + 1), placesOf(1), impl.MaxLong, "00000000 false"},
		// The costs fail elsewhere than at the end.
		{[]float32{3e38, 0, -3e38}, []float32{3e38, 0, -3e38}, 1, "00000000 true"},
		{[]float32{3e38, 0, -3e38}, []float32{3e38, 0, -3e38}, 2, "00000000 false"},
		{[]float32{3e38, 3e38}, []float32{1, 1}, 0, "00000000 false"},
	}
	for _, row := range append(rows, wrongWarps(noNumber)...) {
		far, ok := impl.WarpFar(row.a, row.b, row.window)
		expect(t, "how far are, warped, "+shown(row.a, row.b, row.window), shown(far, ok), row.want)
	}
}

func TestWarpWay(t *testing.T) {
	rows := []warpRow{
		{[]float32{1, 2}, []float32{1, 1, 2}, 2, "[0 0 0 1 1 2] true"},
		{[]float32{1, 1, 2}, []float32{1, 2}, 2, "[0 0 1 0 2 1] true"},
		{[]float32{1, 5, 2}, []float32{1.5, 4, 4, 2.25}, 3, "[0 0 1 1 1 2 2 3] true"},
		{rough(), wavy(), 0, "[0 0 1 1 2 2 3 3 4 4 5 5 6 6 7 7 8 8 9 9 10 10 11 11] true"},
		{rough(), wavy(), 1, "[0 0 1 0 2 1 3 2 4 3 4 4 5 5 6 6 6 7 7 8 8 9 9 10 10 11 11 11] true"},
		{rough(), wavy(), 3, "[0 0 1 0 2 1 3 2 4 3 4 4 5 5 6 6 6 7 6 8 6 9 7 10 8 11 9 11 10 11 11 11] true"},
		{wavy(), rough(), impl.MaxLong, "[0 0 0 1 1 2 2 3 3 4 4 4 5 5 6 6 7 6 8 6 9 6 10 7 11 8 11 9 11 10 11 11] true"},
		{rough(), wavy()[3:], 3, "[0 0 1 1 2 2 2 3 2 4 3 5 4 6 5 6 6 6 7 7 8 8 9 8 10 8 11 8] true"},
		{rough(), wavy()[3:], 2, "[] false"},
		{rough()[:5], heights(), 9, "[0 0 0 1 1 2 1 3 1 4 1 5 1 6 1 7 1 8 1 9 2 10 3 11 4 12 4 13] true"},
		{heights(), rough()[:5], 9, "[0 0 1 0 2 1 3 1 4 1 5 1 6 1 7 1 8 1 9 1 10 2 11 3 12 4 13 4] true"},
		{tiny(), steep(), 1, "[0 0 1 1 2 2 3 3 4 4 4 5] true"},
		{[]float32{7}, []float32{4.5}, 0, "[0 0] true"},
		{[]float32{1}, []float32{1, 2, 3}, 2, "[0 0 0 1 0 2] true"},
		{[]float32{1, 2, 3}, []float32{1}, 2, "[0 0 1 0 2 0] true"},
		{[]float32{1}, []float32{1, 2, 3}, 1, "[] false"},
		{placesOf(impl.MaxLong), wholeNumbers(2), impl.MaxLong, "[0 0 1 0 2 0 3 0 4 0 5 0 6 0 7 0 8 0 9 0 10 0 11 0 12 0 13 0 14 0 15 0 16 0 17 0 18 0 19 0 20 0 21 0 22 0 23 0 24 0 25 0 26 0 27 0 28 0 29 0 30 0 31 0 32 0 33 0 34 0 35 0 36 0 37 0 38 0 39 0 40 0 41 0 42 0 43 0 44 0 45 0 46 0 47 0 48 0 49 0 50 0 51 0 52 0 53 0 54 0 55 0 56 0 57 0 58 0 59 0 60 0 61 0 62 0 63 0 64 0 65 0 66 0 67 0 68 0 69 0 70 0 71 0 72 0 73 0 74 0 75 0 76 0 77 0 78 0 79 0 80 0 81 0 82 0 83 0 84 0 85 0 86 0 87 0 88 0 89 0 90 0 91 0 92 0 93 0 94 0 95 1] true"},
		// All ways cost as much: the steps back are of the former first, then of the latter.
		{[]float32{2, 2}, []float32{2, 2}, 1, "[0 0 0 1 1 1] true"},
		{[]float32{2, 2, 2}, []float32{2, 2, 2}, 2, "[0 0 0 1 0 2 1 2 2 2] true"},
		{[]float32{2, 2, 2}, []float32{2, 2, 2}, 1, "[0 0 0 1 1 1 1 2 2 2] true"},
		{[]float32{2, 2, 2}, []float32{2, 2, 2}, 0, "[0 0 1 1 2 2] true"},
		{[]float32{2, 2}, []float32{2, 2, 2, 2}, 3, "[0 0 0 1 0 2 0 3 1 3] true"},
		{[]float32{2, 2, 2, 2}, []float32{2, 2}, 3, "[0 0 0 1 1 1 2 1 3 1] true"},
		{[]float32{2, 2, 2, 2}, []float32{2, 2}, 2, "[0 0 0 1 1 1 2 1 3 1] true"},
		{[]float32{2, 2}, []float32{2, 2, 2, 2}, 2, "[0 0 0 1 0 2 1 2 1 3] true"},
		// Several of the three, but not all of them, are least.
		{[]float32{0, 1, 0}, []float32{0, 1, 0}, 2, "[0 0 1 1 2 2] true"},
		{[]float32{0, 1, 1, 0}, []float32{0, 0, 1, 0}, 3, "[0 0 0 1 1 2 2 2 3 3] true"},
		{[]float32{0, 2, 1}, []float32{0, 1, 2}, 2, "[0 0 1 1 1 2 2 2] true"},
		{[]float32{0, 1, 2}, []float32{0, 2, 1}, 2, "[0 0 1 1 1 2 2 2] true"},
		{[]float32{1, 2, 1, 2, 1}, []float32{2, 1, 2, 1, 2}, 4, "[0 0 0 1 1 2 2 3 3 4 4 4] true"},
		{[]float32{2, 1, 2, 1, 2}, []float32{1, 2, 1, 2, 1}, 4, "[0 0 0 1 1 2 2 3 3 4 4 4] true"},
		// A difference is lost where the costs are great, so that they are as least.
		{[]float32{16777216, 0, 0.5}, []float32{0, 0, 0}, 2, "[0 0 1 0 1 1 1 2 2 2] true"},
		{[]float32{3e38, 0, -3e38}, []float32{3e38, 0, -3e38}, 1, "[0 0 1 1 2 2] true"},
		{[]float32{3e38, 0, -3e38}, []float32{3e38, 0, -3e38}, 2, "[] false"},
	}
	for _, row := range append(rows, wrongWarps(noNumbers)...) {
		way, ok := impl.WarpWay(row.a, row.b, row.window)
		expect(t, "way of "+shown(row.a, row.b, row.window), shown(way, ok), row.want)
	}
}
