package tests

import (
	"math"
	"testing"

	"loop.example/g01375/impl"
)

// falling is a series whose lag 1 is so like the opposite of it that nothing
// can be left of the lag 2: its squares are next to the least number.
func falling() []float32 {
	return []float32{fromBits(0x1990d0c3), fromBits(0x9a471f0c), fromBits(0x19fd6d54)}
}

func TestSelfLikes(t *testing.T) {
	rows := []struct {
		list []float32
		most int64
		want string
	}{
		{[]float32{1, -1, 1, -1}, 1, "[3f800000 bf400000] true"}, {[]float32{1, -1, 1, -1}, 0, "[3f800000] true"},
		{[]float32{1, -1, 1, -1}, 3, "[3f800000 bf400000 3f000000 be800000] true"}, {[]float32{1, 2}, 1, "[3f800000 bf000000] true"},
		{wavy(), 11, "[3f800000 be29c366 bdc665d8 be0099ca bde3c089 bd481838 3d66c8be bd846977 3cc8aefb 3c809ae0 3c0342c3 3c09b961] true"}, {rough(), 4, "[3f800000 be6690f5 be910551 3d2d80ea bda84b36] true"}, {falling(), 2, "[3f800000 bf800000 00000000] true"},
		{wholeNumbers(17), 16, "[3f800000 3dfd565c be093bc9 be280a5b 3e316913 bdd902f4 beabb8bc bd983000 3e74ce71 bd8537f5 bde8e1d3 bdc9b90f 3e05a2e5 bd1848ca bd878413 bd299ebf 3d8de1ae] true"}, {wholeNumbers(impl.MaxLong), 16, "[3f800000 3cb71918 3c88dfb1 3dff016e 3e3bf5e3 be144af1 bd3cbe13 bd42713c 3d9686ca bdf64e67 bdcd67e5 3cfe5834 3c75da10 bb11e61f bd544100 bd05e15e 3a8dcfbd] true"},
		{[]float32{1e8, 1, 1e8, 1e8}, 2, "[3f800000 bed55556 be2aaaab] true"},
		// A series that never changes can differ from its mean.
		{repeated(float32(0.3), 6), 1, "[3f800000 3f555555] true"},
		{wholeNumbers(20), 17, noNumbers}, {wholeNumbers(17), 17, noNumbers}, {wholeNumbers(16), 16, noNumbers}, {[]float32{1, 2}, 2, noNumbers},
		{[]float32{1, 2}, -1, noNumbers}, {[]float32{1, 2}, math.MaxInt64, noNumbers}, {[]float32{1, 2}, math.MinInt64, noNumbers},
		{[]float32{7}, 0, noNumbers}, {[]float32{7}, 1, noNumbers}, {[]float32{2, 2}, 0, noNumbers}, {repeated(float32(5), impl.MaxLong), 3, noNumbers},
		{[]float32{0, fromBits(negZero)}, 1, noNumbers}, {tiny(), 1, noNumbers},
		// The mean, a number less it, or the sum of squares is not finite.
		{[]float32{3e38, 3e38, -3e38}, 1, noNumbers}, {[]float32{3.4e38, -3.4e38, -3.4e38}, 1, noNumbers}, {steep(), 1, noNumbers}, {[]float32{1e20, 1}, 0, noNumbers},
	}
	for _, row := range rows {
		likes, ok := impl.SelfLikes(row.list, row.most)
		expect(t, "self likes of "+shown(row.list, row.most), shown(likes, ok), row.want)
		if row.want == noNumbers {
			left, ok := impl.PartLikes(row.list, row.most)
			expect(t, "part likes of "+shown(row.list, row.most), shown(left, ok), noNumbers)
			sum, ok := impl.LikeSum(row.list, row.most)
			expect(t, "like sum of "+shown(row.list, row.most), shown(sum, ok), noNumber)
		}
	}
}

func TestPartLikes(t *testing.T) {
	rows := []struct {
		list []float32
		most int64
		want string
	}{
		{[]float32{1, -1, 1, -1}, 1, "[bf400000] true"}, {[]float32{1, -1, 1, -1}, 0, "[] true"}, {[]float32{1, -1, 1, -1}, 2, "[bf400000 be124925] true"},
		{[]float32{1, -1, 1, -1}, 3, "[bf400000 be124925 3e2aaaa9] true"}, {[]float32{1, 2}, 1, "[bf000000] true"}, {[]float32{1, 2}, 0, "[] true"},
		{wavy(), 11, "[be29c366 be02f120 be308410 be484923 be2f7984 bd9924ec be357c6b bdf31c5e bdcfc777 bdc8b50e bdbd1950] true"}, {rough(), 5, "[be6690f5 beb41c01 be177cbb be85e5ff bec2dba9] true"}, {rough(), 2, "[be6690f5 beb41c01] true"},
		{wholeNumbers(17), 16, "[3dfd565c be1b4749 be0661ae 3e4fb4d1 be5c7da3 be9b2a78 3d81a955 3df5dc8d be80df69 3d67a472 bdec1bec bdf3437e 3c3e2463 3c0a080f be2316b4 bcbd63e3] true"}, {wholeNumbers(impl.MaxLong), 16, "[3cb71918 3c84d907 3dfdb44c 3e395485 be23560e bd89e5ab bdb85ecd 3db9d780 bd5994a7 bdc1af89 3ce0f60b bbf39c0a 3da433af bd715f56 bda66047 bcce5c98] true"},
		{repeated(float32(0.3), 6), 3, "[3f555555 bdba2e76 bdccccda] true"}, {placesOf(impl.MaxLong), 9, "[3f780000 bc8038e4 bc8077cf bc80aea8 bc80efbc bc8130d7 bc8169e8 bc81a70a bc81ec69] true"},
		// The divisor of the lag 2 is 0.
		{falling(), 1, "[bf800000] true"}, {falling(), 2, noNumbers},
	}
	for _, row := range rows {
		left, ok := impl.PartLikes(row.list, row.most)
		expect(t, "part likes of "+shown(row.list, row.most), shown(left, ok), row.want)
	}
}

func TestCrossLikes(t *testing.T) {
	up := []float32{1, 2, 4}
	rows := []struct {
		a, b []float32
		most int64
		want string
	}{
		{[]float32{1, -1, 1, -1}, []float32{1, -1, 1, -1}, 1, "[bf400000 3f800000 bf400000] true"}, {up, []float32{3, 0, 1}, 0, "[befffffe] true"},
		{up, []float32{3, 0, 1}, 2, "[3f186186 bf186185 befffffe 3ecf3cf2 3dc30c31] true"}, {[]float32{3, 0, 1}, up, 2, "[3dc30c31 3ecf3cf2 befffffe bf186185 3f186186] true"},
		{wavy(), rough(), 5, "[bc1c76d1 be01c2ce 3e8004a9 be9d7a43 3ec753c0 bdb6e2b9 bef4f0d9 bd0b3dcf 3f2c6ca7 bde0433d 3e171fa0] true"}, {rough(), wavy(), 11, "[3cf71201 3d174a48 3cb80112 3d0fba0f bebd237b bd864576 3e171fa0 bde0433d 3f2c6ca7 bd0b3dcf bef4f0d9 bdb6e2b9 3ec753c0 be9d7a43 3e8004a9 be01c2ce bc1c76d1 3c145489 3cda463d bd4c0f53 3cf93790 bc9748a1 3be7bdfe] true"}, {wavy(), wavy(), 2, "[bdc665d8 be29c366 3f800000 be29c366 bdc665d8] true"},
		{wholeNumbers(17), placesOf(17), 16, "[3d8ea71e bd20e12d bd30c90c bb408c9f 3cda1088 bb4a526e be09b60e bdbc8270 3d61fc79 bd8a37ec be29f95f be94ec97 be32e6a2 be5368ec bdd9ce79 3d78f854 3e71f8b2 3ea11b59 3e57ab8e 3e4ae1a9 3e6ece90 3e880ae8 3e7508f2 3dbb4ee3 3dd593f4 3e77b45d 3de45a7f bcbf461e be5e3fe8 be37b144 be93eaf4 be891578 be1fc251] true"},
		{wholeNumbers(impl.MaxLong), placesOf(impl.MaxLong), 3, "[bdc7682e bdacde4d bd656dfd bcbc007c bd16e9a1 bd5a285e bda9ca70] true"},
		{repeated(float32(0.3), 6), placesOf(6), 1, "[be79d496 00000000 3e79d496] true"},
		// The product of the squares is not finite, and nothing is divided by it.
		{[]float32{1e20, 1}, up[:2], 1, "[00000000 80000000 00000000] true"}, {[]float32{1, 2}, []float32{1e20, 1}, 1, "[00000000 80000000 00000000] true"},
		{[]float32{1e10, 1}, []float32{1e10, 1}, 0, "[00000000] true"}, {[]float32{1e10, 1}, []float32{1, 1e10}, 0, "[80000000] true"},
		{[]float32{1e20, 1}, []float32{1e20, 1}, 0, noNumbers}, {[]float32{1e20, 1}, []float32{2, 2}, 0, noNumbers}, {[]float32{3e38, 3e38}, up[:2], 0, noNumbers},
		{up[:2], []float32{3e38, 3e38}, 0, noNumbers}, {[]float32{3.4e38, -3.4e38, -3.4e38}, up, 0, noNumbers},
		// The product of the squares, or one of them, is 0.
		{up, []float32{2, 2, 2}, 1, noNumbers}, {[]float32{2, 2, 2}, up, 1, noNumbers}, {[]float32{7}, []float32{8}, 0, noNumbers},
		{[]float32{0, 1e-12}, []float32{0, 1e-12}, 0, noNumbers}, {[]float32{0, 1e-11}, []float32{0, 1e-11}, 0, "[3f71c900] true"},
		{up, up[:2], 1, noNumbers}, {up[:2], up, 1, noNumbers}, {up, []float32{1, 2, 4, 8}, 1, noNumbers},
		{up, up, 3, noNumbers}, {up, up, -1, noNumbers}, {up, up, math.MaxInt64, noNumbers}, {up, up, math.MinInt64, noNumbers},
		{wholeNumbers(20), placesOf(20), 17, noNumbers}, {wholeNumbers(16), placesOf(16), 16, noNumbers},
	}
	for _, row := range rows {
		likes, ok := impl.CrossLikes(row.a, row.b, row.most)
		expect(t, "cross likes of "+shown(row.a, row.b, row.most), shown(likes, ok), row.want)
	}
}

func TestLikeSum(t *testing.T) {
	rows := []struct {
		list []float32
		most int64
		want string
	}{
		{[]float32{1, -1, 1, -1}, 1, "40900000 true"}, {[]float32{1, -1, 1, -1}, 0, "00000000 true"}, {[]float32{1, 2}, 0, "00000000 true"},
		{[]float32{1, 2}, 1, "40000000 true"}, {[]float32{1, -1, 1, -1}, 3, "41100000 true"}, {wavy(), 11, "3fbcba19 true"},
		{rough(), 1, "3f463863 true"}, {rough(), 2, "4007d0ac true"}, {rough(), 4, "401308ca true"}, {rough(), 7, "40ced6f1 true"},
		{wholeNumbers(17), 16, "414b2a31 true"}, {wholeNumbers(impl.MaxLong), 16, "41386c63 true"}, {placesOf(impl.MaxLong), 5, "43cffb95 true"},
		{repeated(float32(0.3), 6), 5, "41a00000 true"}, {falling(), 2, "40f00000 true"},
	}
	for _, row := range rows {
		sum, ok := impl.LikeSum(row.list, row.most)
		expect(t, "like sum of "+shown(row.list, row.most), shown(sum, ok), row.want)
	}
}

func TestPairCount(t *testing.T) {
	minusZero := fromBits(negZero)
	rows := []struct {
		a, b []float32
		want int64
	}{
		{[]float32{1, 2, 3}, []float32{1, 3, 2}, 1}, {[]float32{1, 2, 3}, []float32{7, 8, 9}, 3}, {[]float32{1, 2, 3}, []float32{9, 8, 7}, -3},
		{[]float32{5}, []float32{6}, 0}, {[]float32{1, 2}, []float32{4, 4}, 0}, {[]float32{4, 4}, []float32{1, 2}, 0}, {[]float32{2, 2}, []float32{1, 1}, 0},
		{[]float32{0, minusZero}, []float32{1, 2}, 0}, {[]float32{1, 2}, []float32{minusZero, 0}, 0}, {[]float32{minusZero, 0, 1}, []float32{1, 2, 3}, 2},
		{[]float32{1, 1, 2, 3, 3}, []float32{5, 4, 4, 6, 1}, -1}, {wavy(), wavy(), 66}, {wavy(), rough(), -8},
		{tiny(), placesOf(5), 0}, {[]float32{-3e38, 3e38, 0}, []float32{1, 2, 3}, 1},
		{[]float32{0, fromBits(1), fromBits(2)}, []float32{3e38, -3e38, 0}, -1}, {placesOf(impl.MaxLong), placesOf(impl.MaxLong), 4560},
	}
	for _, row := range rows {
		count, ok := impl.PairCount(row.a, row.b)
		expect(t, "pairs of "+shown(row.a, row.b), shown(count, ok), shown(row.want, true))
		count, ok = impl.PairCount(row.b, row.a)
		expect(t, "pairs of "+shown(row.b, row.a), shown(count, ok), shown(row.want, true))
	}
	for _, pair := range unequalPairs() {
		count, ok := impl.PairCount(pair[0], pair[1])
		expect(t, "pairs of "+shown(pair[0], pair[1]), shown(count, ok), "0 false")
	}
}

// unequalPairs returns lists that are no two series of the same length.
func unequalPairs() [][2][]float32 {
	pairs := [][2][]float32{{{1, 2}, {1, 2, 3}}, {{1, 2, 3}, {1, 2}}, {{1}, nil}, {nil, {1}}, {wavy(), steep()}}
	for _, wrong := range wrongSeries() {
		right := placesOf(len(wrong))
		pairs = append(pairs, [2][]float32{wrong, right}, [2][]float32{right, wrong}, [2][]float32{wrong, wrong})
	}
	return pairs
}

func TestRankLike(t *testing.T) {
	minusZero := fromBits(negZero)
	rows := []struct {
		a, b []float32
		want string
	}{
		{[]float32{1, 2}, []float32{5, 9}, "3f800000 true"}, {[]float32{1, 2}, []float32{9, 5}, "bf800000 true"}, {[]float32{1, 2, 3}, []float32{1, 3, 2}, "3f000000 true"},
		{[]float32{1, 1, 2}, []float32{1, 2, 3}, "3f5db3d8 true"}, {[]float32{1, 1, 2, 2}, []float32{1, 2, 2, 1}, "00000000 true"},
		{[]float32{0, minusZero, 1}, []float32{3, 2, 7}, "3f5db3d8 true"}, {[]float32{5, 5, 5, 1}, []float32{minusZero, 2, 0, 2}, "bf13cd3a true"},
		{wavy(), rough(), "be6c4ec5 true"}, {rough(), placesOf(12), "be00e526 true"}, {steep(), placesOf(6), "bedb6db7 true"},
		{tiny(), placesOf(5), "bdcccccd true"}, {[]float32{-3e38, 3e38, 0}, []float32{3e38, 3e38, 0}, "00000000 true"},
		{wholeNumbers(impl.MaxLong), placesOf(impl.MaxLong), "bca5af45 true"}, {placesOf(impl.MaxLong), placesOf(impl.MaxLong), "3f800000 true"},
		{[]float32{5}, []float32{6}, noNumber}, {[]float32{1, 2}, []float32{4, 4}, noNumber}, {[]float32{4, 4, 4}, []float32{1, 2, 3}, noNumber},
		{[]float32{0, minusZero}, []float32{1, 2}, noNumber}, {[]float32{2, 2}, []float32{2, 2}, noNumber},
	}
	for _, row := range rows {
		like, ok := impl.RankLike(row.a, row.b)
		expect(t, "likeness of the ranks of "+shown(row.a, row.b), shown(like, ok), row.want)
	}
	for _, pair := range unequalPairs() {
		like, ok := impl.RankLike(pair[0], pair[1])
		expect(t, "likeness of the ranks of "+shown(pair[0], pair[1]), shown(like, ok), noNumber)
		likes, ok := impl.CrossLikes(pair[0], pair[1], 0)
		expect(t, "cross likes of "+shown(pair[0], pair[1]), shown(likes, ok), noNumbers)
	}
}
