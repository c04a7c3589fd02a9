package tests

import (
	"math"
	"testing"

	"loop.example/g01375/impl"
)

const noBands = "[] 0 false"

func TestAheadOf(t *testing.T) {
	minusZero := fromBits(negZero)
	rows := []struct {
		s     impl.State
		h     impl.Shares
		count int64
		want  string
	}{
		{stateOf(1, 2, 0, 0), sharesOf(0, 0, 0, 0.5), 3, "[40000000 40200000 40300000] true"}, {stateOf(2, 0.5, 0, -1, 1), sharesOf(0, 0, 0, 0), 3, "[3f800000 40400000 3f800000] true"}, {stateOf(2, 0.5, 0, -1, 1), sharesOf(0, 0, 0, 1), 5, "[3fc00000 40800000 40200000 40a00000 40600000] true"}, {stateOf(2, 0.5, 1, -1, 1), sharesOf(1, 1, 1, 1), 5, "[40600000 40000000 40900000 40400000 40b00000] true"},
		{stateOf(2, 0.5, 2, -1, 1, 5), sharesOf(1, 1, 1, 1), 1, "[40f00000] true"}, {stateOf(0.1, 0.7, 1, 11, 0.3, 12), sharesOf(0.1, 0.2, 0.3, 0.9), 12, "[3f83d70a 4154c083 414ceab3 402442ae 416ae0ec 4160d4ab 406bf35e 417b0247 416f5917 40901b3e 4183624a 4179ee5c] true"}, {stateOf(0.1, 0.7, 1, 11, 0.3, 12), sharesOf(0.1, 0.2, 0.3, 0.3), 32, "[3f1c28f6 4145f7cf 41364539 3f3293f3 4146636a 41366581 3f332ee6 41466652 41366660 3f333316 41466666 41366666 3f333332 41466666 41366666 3f333333 41466666 41366666 3f333333 41466666 41366666 3f333333 41466666 41366666 3f333333 41466666 41366666 3f333333 41466666 41366666 3f333333 41466666] true"},
		{stateOf(-7.7, 13.13, 20, wholeNumbers(24)...), sharesOf(0.1, 0.2, 0.3, 0.98), impl.MaxReach, "[47851215 47b556e4 47027223 47af5b9f 4258753b 45fa7df7 46f88e4a 478b8e28 46d25886 47bfde7f 47a6c440 47ac98e7 45e0af3c 47237acd 47b45ec0 47653b00 471f9650 4717cf71 474de663 47a0ed93 46da157c 47ae5d94 4781d335 47686f7f 47858b36 47b5cd98 47035acb 47afcda0 438ac7a1 4600aae3 46fa3b7b 478bf74f] true"}, {stateOf(1, -3, 0, 0), sharesOf(0, 0, 0, 0.99), impl.MaxReach, "[bffc28f6 c09d212e c0fa4740 c12b3f6e c158e532 c1830b0e c19969aa c1af8f02 c1c57ba8 c1db302e c1f0ad23 c202f98b c20d814a c217ee14 c222402d c22c77db c2369560 c2409900 c24a82fe c254539a c25e0b16 c267a9b2 c2712fae c27a9d4a c281f961 c286982a c28b2b1f c28fb25f c2942e06 c2989e34 c29d0306 c2a15c98] true"},
		{stateOf(minusZero, minusZero, 0, minusZero, 0), sharesOf(0, 0, 0, 1), 4, "[80000000 00000000 80000000 00000000] true"}, {stateOf(minusZero, 0, 0, minusZero), sharesOf(0, 0, 0, minusZero), 3, "[80000000 00000000 00000000] true"}, {stateOf(fromBits(3), fromBits(5), 0, fromBits(1)), sharesOf(0, 0, 0, 0.5), 5, "[00000006 00000008 00000008 00000009 00000009] true"},
		{stateOf(1e8, -1e8, 0, 1), sharesOf(0, 0, 0, 1), 3, "[3f800000 ccbebc20 cd3ebc20] true"}, {stateOf(0, 1e38, 0, 0), sharesOf(0, 0, 0, 1), 3, "[7e967699 7f167699 7f61b1e6] true"}, {stateOf(0, 1e38, 0, 0), sharesOf(0, 0, 0, 0.5), impl.MaxReach, "[7e167699 7e61b1e6 7e83a7c6 7e8d0f2f 7e91c2e4 7e941cbf 7e9549ac 7e95e022 7e962b5e 7e9650fb 7e9663ca 7e966d32 7e9671e5 7e96743f 7e96756c 7e967603 7e96764e 7e967673 7e967686 7e967690 7e967694 7e967697 7e967698 7e967698 7e967699 7e967699 7e967699 7e967699 7e967699 7e967699 7e967699 7e967699] true"},
		// The first, or the last, guess is not finite, or only just is.
		{stateOf(3e38, 3e38, 0, 0), sharesOf(0, 0, 0, 1), 1, noNumbers}, {stateOf(0, 1e38, 0, 0), sharesOf(0, 0, 0, 1), 4, noNumbers}, {stateOf(3e38, 0, 0, 0, 3e38), sharesOf(0, 0, 0, 1), 2, noNumbers}, {stateOf(3e38, 0, 0, 0, 3e38), sharesOf(0, 0, 0, 1), 1, "[7f61b1e6] true"},
		{stateOf(1, 2, 0, 0), sharesOf(0, 0, 0, 0.5), 0, noNumbers}, {stateOf(1, 2, 0, 0), sharesOf(0, 0, 0, 0.5), impl.MaxReach + 1, noNumbers}, {stateOf(1, 2, 0, 0), sharesOf(0, 0, 0, 0.5), -1, noNumbers},
		{stateOf(1, 2, 0, 0), sharesOf(0, 0, 0, 0.5), math.MaxInt64, noNumbers}, {stateOf(1, 2, 0, 0), sharesOf(0, 0, 0, 0.5), math.MinInt64, noNumbers},
	}
	for _, row := range rows {
		ahead, ok := impl.AheadOf(row.s, row.h, row.count)
		expect(t, "ahead of "+shown(row.s, row.h, row.count), shown(ahead, ok), row.want)
	}
}

type bandRow struct {
	s                  impl.State
	h                  impl.Shares
	misses             []float32
	count, draws, seed int64
	share              float32
	want               string
}

func bandRows() []bandRow {
	return []bandRow{
		{stateOf(1, 2, 0, 0), sharesOf(0.5, 0.5, 0, 1), []float32{0}, 2, 3, 0, 0.5, "[40400000 40a00000] 2670642822 true"}, {stateOf(1, 2, 0, 0), sharesOf(0, 0, 0, 0), []float32{1, 2, 3, 4, 5, 6, 7}, 8, 1, 0, 0, "[40400000 40400000 40e00000 40c00000 40800000 40c00000 40800000 40c00000] 2748932008 true"}, {stateOf(1, 2, 0, 0), sharesOf(0, 0, 0, 0), []float32{1, 2, 3, 4, 5, 6, 7}, 4, 2, 0, 0, "[40400000 40400000 40800000 40c00000] 2748932008 true"},
		{stateOf(1, 2, 0, 0), sharesOf(0, 0, 0, 0), []float32{1, 2, 3, 4, 5, 6, 7}, 4, 2, 0, 1, "[40800000 40c00000 40e00000 40c00000] 2748932008 true"}, {stateOf(1, 2, 0, 0), sharesOf(0.5, 0.5, 0, 1), []float32{-1, 1}, 1, 1, 12345, 0.5, "[40000000] 87628868 true"},
		{stateOf(0.1, 0.7, 1, 11, 0.3, 12), sharesOf(0.1, 0.2, 0.3, 0.9), rough(), 7, 9, 4294967295, 0.1, "[c0ae6667 40e10bb8 41012dcb 3ec6fc48 413fc7e3 412f4fa8 bf6852c8] 636461152 true"}, {stateOf(0.1, 0.7, 1, 11, 0.3, 12), sharesOf(0.1, 0.2, 0.3, 0.9), rough(), 7, 9, 4294967295, 0.9, "[412a1478 41a0577d 41af4331 418f0378 41a4bd44 41d8eefa 4191ee3c] 636461152 true"}, {stateOf(0.1, 0.7, 1, 11, 0.3, 12), sharesOf(0.1, 0.2, 0.3, 0.9), rough(), 7, 9, 0, 0.9, "[41a03d71 41d6abc9 419d53e3 4187d03e 41d872af 4213d9d1 41d0ac66] 634580517 true"},
		{stateOf(-7.7, 13.13, 20, wholeNumbers(24)...), sharesOf(0.9, 0.2, 0.3, 0.98), wavy(), impl.MaxReach, impl.MaxDraws, 77, 0.25, "[4785121e 47b55765 47027b9c 47af61a8 429b7eb5 45fb88cb 46f8ecd3 478bbeff 46d34047 47c0432d 47a7383c 47ae6d4b 46002dde 47286d63 47b71529 476bc1fa 4726e1d0 4720b5d0 475844f0 47a67c8c 46f27c24 47b4f7bc 4788e282 47774c58 478d571f 47be16e8 47148ca6 47b91114 45b9dd39 465e0a54 47161b92 47992e2a] 3417622605 true"}, {stateOf(2, -1, 4, 1, 2, 3, 4, 5), sharesOf(0.9, 0.1, 0.5, 0.5), wholeNumbers(impl.MaxLong), 3, impl.MaxDraws, 4000000000, 0.77, "[47864722 47ffec3d 483787c3] 1628521408 true"},
		{stateOf(2, -1, 4, 1, 2, 3, 4, 5), sharesOf(1, 1, 1, 1), tiny(), 6, 3, 1, fromBits(negZero), "[40c00000 3f800000 3f800000 3f800000 3f800000 3f800000] 1403919595 true"}, {stateOf(2, -1, 4, 1, 2, 3, 4, 5), sharesOf(0, 0, 0, 1), wavy(), 1, 2, 999, 0.3, "[42101375] 3829514417 true"},
		// The index is told by the product, and not by a remainder or by rounding.
		{stateOf(0, 0, 0, 0), sharesOf(0, 0, 0, 0), placesOf(impl.MaxLong), impl.MaxReach, 1, 0, 0, "[41b00000 41d00000 429c0000 42800000 42100000 426c0000 42000000 42740000 42400000 425c0000 42980000 428c0000 42680000 42a80000 00000000 42440000 42860000 41e80000 42100000 42740000 42480000 42500000 42180000 41b80000 3f800000 41c80000 42bc0000 42680000 422c0000 41400000 42000000 40000000] 95141024 true"}, {stateOf(0, 0, 0, 0), sharesOf(0, 0, 0, 0), placesOf(3), impl.MaxReach, 1, 3000000000, 0, "[3f800000 40000000 40000000 3f800000 40000000 40000000 00000000 40000000 40000000 00000000 40000000 00000000 40000000 40000000 00000000 00000000 3f800000 40000000 40000000 00000000 40000000 00000000 3f800000 3f800000 3f800000 40000000 00000000 00000000 00000000 3f800000 00000000 3f800000] 2105219744 true"},
		// A number, its miss, a state, or a gap between numbers is not finite, or only
		// just is.
		{stateOf(3e38, 0, 0, 0), sharesOf(0, 0, 0, 0), []float32{3e38}, 1, 1, 0, 0, noBands}, {stateOf(3e38, 0, 0, 0), sharesOf(0, 0, 0, 0), []float32{3e38, -1}, 1, 9, 0, 0, noBands}, {stateOf(3e38, 0, 0, 0), sharesOf(0, 0, 0, 0), []float32{-3e38}, 1, 1, 0, 0, "[00000000] 1013904223 true"}, {stateOf(3e38, 0, 0, -3e38), sharesOf(0.5, 0, 0, 0), []float32{3e38}, 2, 1, 0, 0, noBands},
		{stateOf(3e38, 3e38, 0, 0), sharesOf(0, 0, 0, 1), []float32{-3e38}, 1, 1, 0, 0, noBands}, {stateOf(0, 2e38, 0, 0), sharesOf(0, 0, 0, 1), []float32{0}, 2, 1, 0, 0, noBands}, {stateOf(0, 2e38, 0, 0), sharesOf(0, 0, 0, 1), []float32{0}, 1, 1, 0, 0, "[7f167699] 1013904223 true"},
		{stateOf(0, 0, 0, 0), sharesOf(0, 0, 0, 1), []float32{-3e38, 3e38}, 1, 9, 0, 0.44, noBands}, {stateOf(0, 0, 0, 0), sharesOf(0, 0, 0, 1), []float32{-3e38, 3e38}, 1, 9, 0, 1, "[7f61b1e6] 2180890343 true"},
	}
}

func TestBandsOf(t *testing.T) {
	for _, row := range bandRows() {
		bands, seed, ok := impl.BandsOf(row.s, row.h, row.misses, row.count, row.draws, row.seed, row.share)
		expect(t, "bands of "+shown(row.s, row.h, row.misses, row.count, row.draws, row.seed, row.share), shown(bands, seed, ok), row.want)
	}
}

func TestWrongBandsOf(t *testing.T) {
	s, h, misses := stateOf(1, 2, 0, 0), halfShares(), []float32{1, 2}
	rows := []bandRow{
		{s, h, misses, 0, 1, 0, 0.5, noBands}, {s, h, misses, impl.MaxReach + 1, 1, 0, 0.5, noBands}, {s, h, misses, -1, 1, 0, 0.5, noBands}, {s, h, misses, math.MaxInt64, 1, 0, 0.5, noBands}, {s, h, misses, math.MinInt64, 1, 0, 0.5, noBands},
		{s, h, misses, 1, 0, 0, 0.5, noBands}, {s, h, misses, 1, impl.MaxDraws + 1, 0, 0.5, noBands}, {s, h, misses, 1, -1, 0, 0.5, noBands}, {s, h, misses, 1, math.MaxInt64, 0, 0.5, noBands}, {s, h, misses, 1, math.MinInt64, 0, 0.5, noBands},
		{s, h, misses, 1, 1, -1, 0.5, noBands}, {s, h, misses, 1, 1, math.MaxUint32 + 1, 0.5, noBands}, {s, h, misses, 1, 1, math.MaxInt64, 0.5, noBands}, {s, h, misses, 1, 1, math.MinInt64, 0.5, noBands},
	}
	for _, share := range wrongShareNumbers() {
		rows = append(rows, bandRow{s, h, misses, 1, 1, 0, share, noBands}, bandRow{s, h, misses, 2, 3, 0, share, noBands})
	}
	for _, wrong := range wrongSeries() {
		rows = append(rows, bandRow{s, h, wrong, 1, 1, 0, 0.5, noBands})
	}
	for _, wrong := range wrongStates() {
		rows = append(rows, bandRow{wrong, h, misses, 1, 1, 0, 0.5, noBands})
	}
	for _, wrong := range wrongShares() {
		rows = append(rows, bandRow{s, wrong, misses, 1, 1, 0, 0.5, noBands})
	}
	for _, row := range rows {
		bands, seed, ok := impl.BandsOf(row.s, row.h, row.misses, row.count, row.draws, row.seed, row.share)
		expect(t, "bands of "+shown(row.s, row.h, row.misses, row.count, row.draws, row.seed, row.share), shown(bands, seed, ok), row.want)
	}
}
