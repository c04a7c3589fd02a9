package tests

import (
	"testing"

	"loop.example/g01375/impl"
)

type blendRow struct {
	lists [][]float32
	list  []float32
	want  string
}

// wrongWays are lists that no blend is made of: none, too many, of different
// lengths, and those of which one is no series.
func wrongWays() [][][]float32 {
	wrong := [][][]float32{nil, {}, repeated([]float32{1, 2, 3}, impl.MaxWays+1), repeated([]float32{1, 2, 3}, 1000),
		{{1, 2, 3}, {1, 2}}, {{1, 2}, {1, 2, 3}}, {{1, 2, 3}, {1, 2, 3}, {1, 2, 3, 4}}, {{1, 2, 3}, nil}}
	for _, list := range wrongSeries() {
		wrong = append(wrong, [][]float32{list}, [][]float32{list, list})
		for place := range impl.MaxWays {
			lists := repeated([]float32{1, 2, 3}, impl.MaxWays)
			lists[place] = list
			wrong = append(wrong, lists)
		}
	}
	return wrong
}

func TestBlendOf(t *testing.T) {
	minusZero := fromBits(negZero)
	rows := []blendRow{
		{[][]float32{{2, 4}, {4, 8}}, []float32{0.5, 0.5}, "[40400000 40c00000] true"},
		{[][]float32{{2, 4}, {4, 8}, {1, 1}}, []float32{0.25, -0.5, 3}, "[3fc00000 00000000] true"},
		{[][]float32{rough(), wavy(), heights()[:12]}, []float32{0.3, 0.6, 0.1}, "[40147ae1 3f1ae149 40a51eb9 4091c290 4416073b c1d649bb 4085c290 40ba9fbf 4103d70b 3e8a3d74 4271999b 40066666] true"},
		{[][]float32{wavy(), rough(), heights()[:12]}, []float32{-0.7, 1.3, 0.9}, "[3fa28f5b 413c3d70 3f3c28e0 41b2eb85 c42ebfcf 42683a5f 3f7d70a4 41cbb020 bf8e1478 416dc28e c286a8f6 41a99999] true"},
		{[][]float32{tiny(), {1, 2, 3, 4, 5}}, []float32{0.7, 1e-40}, "[000116c3 005bc71d 00034444 005df4a2 000571c9] true"},
		{[][]float32{steep(), {1e18, 2e18, 3e18, 4e18, 5e18, 6e18}}, []float32{0.1, 0.9}, "[5dd2f13f 5da68890 5e905438 5e4bb9d6 5e4249fd 5e95e14e] true"},
		{[][]float32{wholeNumbers(impl.MaxLong), placesOf(impl.MaxLong)}, []float32{0.1, 0.7}, "[00000000 4446eccd 45467333 45df1400 4527d4cd 461960cd 46054a67 4609f334 4431a000 45828266 4610279a 45b71801 457ebe66 4572499a 45a468cd 4600959a 452dd333 460b5467 45cf6400 45b99d99 45d5559a 46114600 45517ccd 460c78cd 45c220cd 459cce67 45a8fa67 45e6a4cd 446a5999 45bdf266 452f2b33 448adccd 447ab99a 451aeb34 45ad1266 43356667 45c844cd 4583da66 4561dccd 458f80cd 45df919a 44a27999 45dbac00 4587b59a 454a7b34 45688800 45b4c8cd 46136601 4591cb34 44b92334 461a639a 461a20cd 44b2e000 458f2f34 46119266 45b01667 455d0ccd 453ce999 457fc334 45d2cccd 4475a000 45d49c01 45838000 4547c4cd 456b8667 45b92267 46170000 459bd99a 44ecc666 43c08000 43e5cccd 45046000 45a7819a 4339e666 45ce1d99 458f6800 458230cd 45a67800 45fc3d9a 4515fe67 4601e0cd 45b58001 4598bccd 45ad7800 45f3b199 44cb9ccd 45dc1d9a 457ca000 4524019a 452e6000 458ddd9a 45f6099a 452e6333 46112d33 45e67f33 45dc2267] true"},
		{[][]float32{wholeNumbers(impl.MaxLong + 1), placesOf(impl.MaxLong + 1)}, []float32{0.1, 0.7}, "[] false"},
		// The order of the sum, in which each product is rounded.
		{[][]float32{{1e8}, {1}, {-1e8}}, []float32{1, 1, 1}, "[00000000] true"},
		{[][]float32{{1e8}, {-1e8}, {1}}, []float32{1, 1, 1}, "[3f800000] true"},
		{[][]float32{{0.1}, {0.7}, {0.3}}, []float32{0.1, -0.7, 1.3}, "[bdb851e8] true"},
		// 1, MaxWays and MaxWays + 1 lists.
		{[][]float32{{7, -3}}, []float32{0.3}, "[40066667 bf666667] true"},
		{[][]float32{{1}, {2}, {3}, {4}, {5}, {6}, {7}, {8}}, []float32{0.1, 0.2, 0.3, 0.4, 0.5, 0.6, 0.7, 0.8}, "[41a33333] true"},
		{[][]float32{{1}, {2}, {3}, {4}, {5}, {6}, {7}, {8}, {9}}, []float32{0.1, 0.2, 0.3, 0.4, 0.5, 0.6, 0.7, 0.8, 0.9}, "[] false"},
		// More weights than lists, and fewer.
		{[][]float32{{1}, {2}}, []float32{0.5}, "[] false"},
		{[][]float32{{1}, {2}}, []float32{0.5, 0.5, 0.5}, "[] false"},
		{[][]float32{{1}, {2}}, []float32{0.5, 0.5, 0}, "[] false"},
		{[][]float32{{1}, {2}}, nil, "[] false"},
		{nil, []float32{0.5}, "[] false"},
		{nil, nil, "[] false"},
		// Weights of 0, and zeros of both signs.
		{[][]float32{{1, 2}, {3, 4}}, []float32{0, 0.5}, "[3fc00000 40000000] true"},
		{[][]float32{{1, 2}, {3, 4}}, []float32{0, 0}, "[00000000 00000000] true"},
		{[][]float32{{-1, 3e38}, {-3, -3e38}}, []float32{0, minusZero}, "[00000000 00000000] true"},
		{[][]float32{{minusZero}}, []float32{1}, "[00000000] true"},
		{[][]float32{{minusZero}, {minusZero}}, []float32{1, 1}, "[00000000] true"},
		{[][]float32{{1}}, []float32{minusZero}, "[00000000] true"},
		// A product, or a sum on the way, is not finite, or only just is.
		{[][]float32{{3e38}}, []float32{2}, "[] false"},
		{[][]float32{{1, 3e38}}, []float32{1.1}, "[3f8ccccd 7f7843b1] true"},
		{[][]float32{{3e38}}, []float32{1.5}, "[] false"},
		{[][]float32{{3e38}}, []float32{0.9}, "[7f4b201b] true"},
		{[][]float32{{3e38}, {3e38}, {-3e38}}, []float32{1, 1, 1}, "[] false"},
		{[][]float32{{3e38}, {-3e38}, {3e38}}, []float32{1, 1, 1}, "[7f61b1e6] true"},
		{[][]float32{{1e20}, {-1e20}}, []float32{1e20, 1e20}, "[] false"},
	}
	for _, wrong := range wrongWays() {
		rows = append(rows, blendRow{wrong, repeated(float32(0.1), len(wrong)), noNumbers}, blendRow{wrong, make([]float32, len(wrong)), noNumbers})
	}
	for _, x := range wrongNumbers() {
		for place := range 3 {
			weights := []float32{0.2, 0.3, 0.5}
			weights[place] = x
			rows = append(rows, blendRow{repeated([]float32{0, 0}, 3), weights, noNumbers}, blendRow{repeated([]float32{1, 2}, 3), weights, noNumbers})
		}
	}
	for _, row := range rows {
		blend, ok := impl.BlendOf(row.lists, row.list)
		expect(t, "blend of "+shown(row.lists, row.list), shown(blend, ok), row.want)
	}
}

func TestMiddleBlend(t *testing.T) {
	minusZero := fromBits(negZero)
	type middleRow struct {
		lists [][]float32
		want  string
	}
	rows := []middleRow{
		{[][]float32{{1}, {9}, {2}}, "[40000000] true"},
		{[][]float32{{1, 5}, {2, 8}}, "[3fc00000 40d00000] true"},
		{[][]float32{{7, -3, 0.1}}, "[40e00000 c0400000 3dcccccd] true"},
		{[][]float32{rough(), wavy(), heights()[:12]}, "[40466666 3f000000 41040000 40f80000 3f8ccccd c1066666 400ccccd 3f666666 41180000 40b00000 3fa66666 3f800000] true"},
		{[][]float32{rough(), wavy(), heights()[:12], placesOf(12)}, "[3fe66666 3f400000 40a40000 40ac0000 40233333 bfd99998 40766666 407ccccd 410c0000 40b80000 40b4cccd 40c00000] true"},
		{[][]float32{tiny(), {1, -2, 3, -4, 5}}, "[3f000000 bf800000 3fc00000 c0000000 40200000] true"},
		{[][]float32{wholeNumbers(impl.MaxLong), placesOf(impl.MaxLong)}, "[00000000 45787800 4677f800 470b6380 46519a00 473faa00 47268b00 472c5b00 455c8800 46a2ed00 47341380 46e49c00 469eef00 46972000 46cd2f00 47208e00 46588800 472df680 47016880 46e79300 47051980 47355880 46826a00 472f5200 46f21900 46c36c00 46d29d00 470fd600 458fd800 46ecc100 46598e00 45aaac00 4599b400 46401a00 46d78b00 44488000 46f97e00 46a3f300 468c4600 46b27700 470b4300 45c74000 4708cd80 46a8a100 467b0a00 46904700 46e0e700 4737b280 46b51e00 45e2d400 47406680 47401000 45dab800 46b1bd00 47355500 46dad200 4688d800 46697800 469e7e00 47030f00 4593e400 47042a80 46a2ec00 4676c200 4691b400 46e5e500 473bfa00 46c13e00 4610cc00 44d6c000 45028000 46222400 46cfb200 4431a000 46ffe900 46b18000 46a0f500 46ce4800 471cbc80 4637ca00 47216900 46e0fa00 46bd0000 46d6e400 47175300 45f68c00 47089080 469bda00 4648e200 4655cc00 46af3900 4718b500 4655ac00 47346180 470ef580 47087880] true"},
		{[][]float32{wholeNumbers(impl.MaxLong + 1), placesOf(impl.MaxLong + 1)}, "[] false"},
		// MaxWays and MaxWays + 1 lists.
		{[][]float32{{5}, {2}, {8}, {1}, {7}, {3}, {6}, {4.5}}, "[40980000] true"},
		{[][]float32{{5}, {2}, {8}, {1}, {7}, {3}, {6}, {4.5}, {9}}, "[] false"},
		{[][]float32{{5}, {2}, {8}, {1}, {7}, {3}, {6}}, "[40a00000] true"},
		{nil, "[] false"},
		{[][]float32{{1}, {1, 2}}, "[] false"},
		// Zeros of both signs.
		{[][]float32{{minusZero}}, "[80000000] true"},
		{[][]float32{{minusZero}, {minusZero}}, "[80000000] true"},
		{[][]float32{{minusZero}, {0}}, "[00000000] true"},
		{[][]float32{{minusZero}, {0}, {0}}, "[00000000] true"},
		{[][]float32{{0}, {minusZero}, {0}}, "[80000000] true"},
		{[][]float32{{1}, {minusZero}, {-1}}, "[80000000] true"},
		// A sum of both in the middle is not finite, or only just is.
		{[][]float32{{3e38}, {3e38}}, "[] false"},
		{[][]float32{{1, 3e38}, {2, 3e38}}, "[] false"},
		{[][]float32{{3e38}, {3e38}, {3e38}}, "[7f61b1e6] true"},
		{[][]float32{{3e38}, {-3e38}}, "[00000000] true"},
		{[][]float32{{1.6e38}, {1.7e38}}, "[7ef843b0] true"},
	}
	for _, wrong := range wrongWays() {
		rows = append(rows, middleRow{wrong, noNumbers})
	}
	for _, row := range rows {
		blend, ok := impl.MiddleBlend(row.lists)
		expect(t, "middle blend of "+shown(row.lists), shown(blend, ok), row.want)
	}
}

func TestWeightsByMiss(t *testing.T) {
	minusZero := fromBits(negZero)
	type weightRow struct {
		misses []float32
		want   string
	}
	rows := []weightRow{
		{[]float32{1, 3}, "[3f400000 3e800000] true"},
		{[]float32{4, 4}, "[3f000000 3f000000] true"},
		{[]float32{0.1, 0.7, 0.3}, "[3f2d6b5b 3dc6318d 3e6739ce] true"},
		{[]float32{7}, "[3f800000] true"},
		{heights()[:8], "[3d8337f3 3ecb6384 3c8797ae 3cd1f31d 3e38e61b 3ba2b604 3db8e61b 3e61fccd] true"},
		{heights()[:9], "[] false"},
		{[]float32{1, 2, 3, 4, 5, 6, 7, 8}, "[3ebc623a 3e3c623a 3dfb2da3 3dbc623a 3d96b4fb 3d7b2da3 3d574bb0 3d3c623a] true"},
		{repeated(float32(1), impl.MaxWays+1), "[] false"},
		{[]float32{1e-8, 1, 1e8}, "[3f800000 322bcc77 24e69595] true"},
		{[]float32{1e8, 1, 1e-8}, "[24e69595 322bcc77 3f800000] true"},
		{[]float32{3e38, 2e38}, "[3ecccccd 3f19999a] true"},
		{[]float32{3e38, 1}, "[00244bfa 3f800000] true"},
		{nil, "[] false"},
		// Misses of 0 and less.
		{[]float32{0}, "[] false"},
		{[]float32{minusZero}, "[] false"},
		{[]float32{1, 0}, "[] false"},
		{[]float32{0, 1}, "[] false"},
		{[]float32{1, -1}, "[] false"},
		{[]float32{-1, 1, 2}, "[] false"},
		{[]float32{-1, -2}, "[] false"},
		{[]float32{1, -fromBits(1)}, "[] false"},
		// A quotient, or only their sum, is not finite.
		{[]float32{fromBits(1)}, "[] false"},
		{[]float32{1, fromBits(1)}, "[] false"},
		{[]float32{fromBits(0x200000)}, "[] false"},
		{[]float32{fromBits(0x200001)}, "[3f800000] true"},
		{[]float32{1, fromBits(0x200001)}, "[00200001 3f800000] true"},
		{[]float32{fromBits(0x200001), fromBits(0x200001)}, "[00000000 00000000] true"},
		{[]float32{fromBits(0x400000), 1, fromBits(0x400000)}, "[00000000 00000000 00000000] true"},
		{[]float32{fromBits(0x400001), 1, fromBits(0x400001)}, "[3f000000 00200001 3f000000] true"},
	}
	for _, x := range wrongNumbers() {
		rows = append(rows, weightRow{[]float32{x}, noNumbers}, weightRow{[]float32{1, x}, noNumbers}, weightRow{[]float32{x, 2, 3}, noNumbers})
	}
	for _, wrong := range wrongSeries() {
		rows = append(rows, weightRow{wrong, noNumbers})
	}
	for _, row := range rows {
		weights, ok := impl.WeightsByMiss(row.misses)
		expect(t, "weights by "+shown(row.misses), shown(weights, ok), row.want)
	}
}

type learnRow struct {
	lists [][]float32
	list  []float32
	rate  float32
	want  string
}

func learnRows() []learnRow {
	minusZero := fromBits(negZero)
	return []learnRow{
		{[][]float32{{1}, {1}}, []float32{1}, 1, "[3f000000 3f000000] true"},
		{[][]float32{{0}, {1}}, []float32{1}, 1, "[3e89b2b1 3f3b26a8] true"},
		{[][]float32{{0, 2}, {1, 1}}, []float32{1, 3}, 0.5, "[3f3b26a7 3e89b2b0] true"},
		{[][]float32{{0, 2}, {1, 1}, {2, 2.5}}, []float32{1, 3}, 0.5, "[3eb5602a 3e0572e0 3f03f333] true"},
		{[][]float32{rough(), heights()[:12], placesOf(12)}, wavy(), 1e-5, "[3ea790bf 3ea0efc5 3eb77f7b] true"},
		{[][]float32{rough(), heights()[:12], placesOf(12)}, []float32{1, 2, 3, 4, 5, 6, 7, 8, 9, 10, 11, 12}, 0.003, "[3d3093a9 3b5a3f9d 3f741c86] true"},
		{[][]float32{tiny(), {1e-3, 2e-3, 3e-3, 4e-3, 5e-3}}, tiny(), 777, "[3f02bc11 3efa87df] true"},
		{[][]float32{wholeNumbers(impl.MaxLong), placesOf(impl.MaxLong), repeated(float32(40000), impl.MaxLong)}, repeated(float32(45000), impl.MaxLong), 1e-11, "[3e9b0126 3db73d00 3f1b97cd] true"},
		{[][]float32{wholeNumbers(impl.MaxLong + 1)}, wholeNumbers(impl.MaxLong + 1), 1, "[] false"},
		// 1, MaxWays and MaxWays + 1 lists.
		{[][]float32{{7, 5, 2}}, []float32{1, 2, 3}, 0.5, "[3f800000] true"},
		{[][]float32{{1}, {2}, {3}, {4}, {5}, {6}, {7}, {8}}, []float32{2.2}, 0.3, "[3e6154fd 3eab792b 3e8f3a00 3e034fd4 3d042416 3b91f4ef 39b0f4a2 376b7b64] true"},
		{[][]float32{{1}, {2}, {3}, {4}, {5}, {6}, {7}, {8}, {9}}, []float32{2.2}, 0.3, "[] false"},
		{nil, []float32{1}, 1, "[] false"},
		{[][]float32{{1, 2}, {1}}, []float32{1, 2}, 1, "[] false"},
		{[][]float32{{1}, {1}}, []float32{1, 2}, 1, "[] false"},
		{[][]float32{{1, 2}, {1, 2}}, []float32{1}, 1, "[] false"},
		{[][]float32{{1, 2}, {1, 2}}, nil, 1, "[] false"},
		// A rate of 0, and one that is less.
		{[][]float32{{0, 2}, {1, 1}, {5, 6}}, []float32{1, 3}, 0, "[3eaaaaab 3eaaaaab 3eaaaaab] true"},
		{[][]float32{{0, 2}, {1, 1}, {5, 6}}, []float32{1, 3}, minusZero, "[3eaaaaab 3eaaaaab 3eaaaaab] true"},
		{[][]float32{{0, 2}, {1, 1}, {5, 6}}, []float32{1, 3}, fromBits(1), "[3eaaaaab 3eaaaaab 3eaaaaab] true"},
		{[][]float32{{0, 2}, {1, 1}, {5, 6}}, []float32{1, 3}, -fromBits(1), "[] false"},
		{[][]float32{{0, 2}, {1, 1}, {5, 6}}, []float32{1, 3}, -1, "[] false"},
		// A weight becomes 0, and stays so.
		{[][]float32{{0, 0, 0}, {20, 0, 0}}, []float32{0, 0, 0}, 1, "[3f800000 00000000] true"},
		{[][]float32{{0, 9}, {20, 0}}, []float32{0, 0}, 1, "[3f800000 00000000] true"},
		{[][]float32{{0, 10}, {0, 10}, {9, 0}}, []float32{0, 0}, 1, "[31cb0b6f 31cb0b6f 3f800000] true"},
		{[][]float32{{0, 10}, {0, 10}, {10.5, 0}}, []float32{0, 0}, 1, "[3f000000 3f000000 00000000] true"},
		{[][]float32{{0, 3e38}, {1e20, 0}}, []float32{0, 3e38}, 1, "[3f800000 00000000] true"},
		// All weights become 0, at once or later, or all but one nearly do.
		{[][]float32{{20}, {30}}, []float32{0}, 1, "[] false"},
		{[][]float32{{0, 20}, {1, 30}}, []float32{0, 0}, 1, "[] false"},
		{[][]float32{{0, 20, 0}, {20, 0, 0}}, []float32{0, 0, 0}, 1, "[] false"},
		{[][]float32{{10.1}, {30}}, []float32{0}, 1, "[3f800000 00000000] true"},
		{[][]float32{{10.15}, {10.16}}, []float32{0}, 1, "[] false"},
		{[][]float32{{10.2}, {10.3}}, []float32{0}, 1, "[] false"},
		{[][]float32{{14.1}}, []float32{0}, 1, "[] false"},
		{[][]float32{{1}}, []float32{-1}, 3e38, "[] false"},
		// A miss, a square, or its product with the rate is not finite.
		{[][]float32{{3e38}, {-3e38}}, []float32{-3e38}, 1, "[00000000 3f800000] true"},
		{[][]float32{{3e38}, {-3e38}}, []float32{-3e38}, 0, "[] false"},
		{[][]float32{{2e19}, {1}}, []float32{0}, 1, "[00000000 3f800000] true"},
		{[][]float32{{2e19}, {1}}, []float32{0}, 0, "[] false"},
		{[][]float32{{1e19}, {1}}, []float32{0}, 100, "[00000000 3f800000] true"},
		{[][]float32{{1e19}, {0.001}}, []float32{0}, 100, "[00000000 3f800000] true"},
		{[][]float32{{1e19}, {1}}, []float32{0}, 0, "[3f000000 3f000000] true"},
		{[][]float32{{1e-30}, {1}}, []float32{0}, 3e38, "[3f800000 00000000] true"},
	}
}

func TestLearnWeights(t *testing.T) {
	rows := learnRows()
	for _, wrong := range wrongWays() {
		rows = append(rows, learnRow{wrong, []float32{1, 2, 3}, 0.5, noNumbers}, learnRow{wrong, []float32{1}, 0, noNumbers})
		if len(wrong) > 0 {
			rows = append(rows, learnRow{wrong, wrong[0], 0.5, noNumbers})
		}
	}
	for _, wrong := range wrongSeries() {
		rows = append(rows, learnRow{[][]float32{{1, 2, 3}, {1, 2, 3}}, wrong, 0.5, noNumbers}, learnRow{[][]float32{{1}}, wrong, 0, noNumbers})
	}
	for _, x := range wrongNumbers() {
		rows = append(rows, learnRow{[][]float32{{1}, {2}}, []float32{1}, x, noNumbers}, learnRow{[][]float32{{1}, {1}}, []float32{1}, x, noNumbers})
	}
	for _, row := range rows {
		weights, ok := impl.LearnWeights(row.lists, row.list, row.rate)
		expect(t, "weights learned of "+shown(row.lists, row.list, row.rate), shown(weights, ok), row.want)
	}
}
