package tests

import (
	"strings"
	"testing"

	"loop.example/g01375/impl"
)

type missRow struct {
	list, guesses []float32
	want          string
}

// missMeasures tells the mean, the size, the root and the share of misses.
func missMeasures(list, guesses []float32) string {
	var texts []string
	for _, measure := range []func([]float32, []float32) (float32, bool){impl.MeanMiss, impl.SizeMiss, impl.RootMiss, impl.ShareMiss} {
		miss, ok := measure(list, guesses)
		texts = append(texts, shown(miss, ok))
	}
	return strings.Join(texts, "; ")
}

// noMisses stands for four measures that fail.
const noMisses = "00000000 false; 00000000 false; 00000000 false; 00000000 false"

func missRows() []missRow {
	minusZero := fromBits(negZero)
	return []missRow{
		{[]float32{1, 2}, []float32{0, 3}, "00000000 true; 3f800000 true; 3f800000 true; 3f99999a true"},
		{[]float32{1, -1}, []float32{0, 0}, "00000000 true; 3f800000 true; 3f800000 true; 40000000 true"},
		{[]float32{1, 0}, []float32{3, 0}, "bf800000 true; 3f800000 true; 3fb504f3 true; 3f000000 true"},
		{rough(), wavy(), "c2aeb999 true; 42cc169f true; 439138b5 true; 3fe5c3c5 true"},
		{wavy(), rough(), "42aeb999 true; 42cc169f true; 439138b5 true; 3fe5c3c5 true"},
		{heights(), wholeNumbers(14), "c7400441 true; 474004b3 true; 4765b5f4 true; 3fffe242 true"},
		{tiny(), []float32{fromBits(2), fromBits(0x7fffff), fromBits(3), -fromBits(0x800001), 0}, "00333332 true; 00333335 true; 00000000 true; 3faaaaab true"},
		{steep(), []float32{1e19, 3e18, -2.5e19, 1, 1e18, 5e18}, "5e84c3a1 true; 5f28270c true; 00000000 false; 3fd55555 true"},
		{[]float32{1e8, 1, -1e8}, []float32{0, 0, 0}, "00000000 true; 4c7e502b true; 4c9bbc00 true; 40000000 true"},
		{[]float32{1e8, -1e8, 1}, []float32{0, 0, 0}, "3eaaaaab true; 4c7e502b true; 4c9bbc00 true; 40000000 true"},
		{[]float32{0.1, 0.2, 0.7}, []float32{0.3, 0.3, 0.3}, "3d088885 true; 3e6eeeef true; 3e877664 true; 3f3bbbbc true"},
		{wholeNumbers(impl.MaxLong), placesOf(impl.MaxLong), "473fbbd5 true; 473fbbd5 true; 475afff5 true; 3ffc1e95 true"},
		{wholeNumbers(impl.MaxLong + 1), placesOf(impl.MaxLong + 1), "00000000 false; 00000000 false; 00000000 false; 00000000 false"},
		{repeated(float32(0.1), impl.MaxLong), repeated(float32(0.3), impl.MaxLong), "be4ccccd true; 3e4ccccd true; 3e4cccc9 true; 3f800001 true"},
		// A miss of 0, and numbers and guesses that are both 0.
		{[]float32{5}, []float32{5}, "00000000 true; 00000000 true; 00000000 true; 00000000 true"},
		{[]float32{5, 1}, []float32{5, 2}, "bf000000 true; 3f000000 true; 3f3504f3 true; 3eaaaaab true"},
		{[]float32{0}, []float32{0}, "00000000 true; 00000000 true; 00000000 true; 00000000 true"},
		{[]float32{minusZero}, []float32{0}, "00000000 true; 00000000 true; 00000000 true; 00000000 true"},
		{[]float32{0, minusZero}, []float32{minusZero, minusZero}, "00000000 true; 00000000 true; 00000000 true; 00000000 true"},
		{[]float32{0, 3, minusZero}, []float32{minusZero, 1, 0}, "3f2aaaab true; 3f2aaaab true; 3f93cd3a true; 3eaaaaab true"},
		{[]float32{0, 3}, []float32{-2, 0}, "40200000 true; 40200000 true; 40232b2b true; 40000000 true"},
		{[]float32{fromBits(1)}, []float32{-fromBits(1)}, "00000002 true; 00000002 true; 00000000 true; 40000000 true"},
		{[]float32{fromBits(1), 1}, []float32{0, 1}, "00000000 true; 00000000 true; 00000000 true; 3f800000 true"},
		// Guesses of another length.
		{[]float32{1, 2}, []float32{1}, "00000000 false; 00000000 false; 00000000 false; 00000000 false"},
		{[]float32{1}, []float32{1, 2}, "00000000 false; 00000000 false; 00000000 false; 00000000 false"},
		{[]float32{1, 2, 3}, nil, "00000000 false; 00000000 false; 00000000 false; 00000000 false"},
		{nil, []float32{1, 2, 3}, "00000000 false; 00000000 false; 00000000 false; 00000000 false"},
		{wholeNumbers(impl.MaxLong), placesOf(impl.MaxLong - 1), "00000000 false; 00000000 false; 00000000 false; 00000000 false"},
		{wholeNumbers(impl.MaxLong), placesOf(impl.MaxLong + 1), "00000000 false; 00000000 false; 00000000 false; 00000000 false"},
		// A miss, twice a miss, a sum, or only a square is not finite, or only just is.
		{[]float32{3e38}, []float32{-3e38}, "00000000 false; 00000000 false; 00000000 false; 00000000 false"},
		{[]float32{1, 3e38}, []float32{1, -3e38}, "00000000 false; 00000000 false; 00000000 false; 00000000 false"},
		{[]float32{3e38}, []float32{3e38}, "00000000 true; 00000000 true; 00000000 true; 00000000 true"},
		{[]float32{3e38, 1}, []float32{3e38, 2}, "bf000000 true; 3f000000 true; 3f3504f3 true; 3eaaaaab true"},
		{[]float32{2e38}, []float32{0}, "7f167699 true; 7f167699 true; 00000000 false; 00000000 false"},
		{[]float32{1.7e38}, []float32{0}, "7effc99e true; 7effc99e true; 00000000 false; 40000000 true"},
		{[]float32{3e38}, []float32{1e38}, "7f16769a true; 7f16769a true; 00000000 false; 00000000 false"},
		{[]float32{2.4e38}, []float32{1e38}, "7ed2a60b true; 7ed2a60b true; 00000000 false; 3f52d2d4 true"},
		{[]float32{3e38, 3e38}, []float32{0, 0}, "00000000 false; 00000000 false; 00000000 false; 00000000 false"},
		{[]float32{3e38, -3e38}, []float32{0, 0}, "00000000 true; 00000000 false; 00000000 false; 00000000 false"},
		{[]float32{-1.5e38, -1.5e38}, []float32{0, 0}, "fee1b1e6 true; 7ee1b1e6 true; 00000000 false; 40000000 true"},
		{[]float32{1.8e19}, []float32{0}, "5f79ccd9 true; 5f79ccd9 true; 5f79ccd9 true; 40000000 true"},
		{[]float32{1.8e19, 0}, []float32{0, -1.8e19}, "5f79ccd9 true; 5f79ccd9 true; 00000000 false; 40000000 true"},
		{[]float32{1.3e19, 0}, []float32{0, -1.3e19}, "5f346947 true; 5f346947 true; 5f346947 true; 40000000 true"},
		{[]float32{2e19}, []float32{0}, "5f8ac723 true; 5f8ac723 true; 00000000 false; 40000000 true"},
		{[]float32{1e-23}, []float32{0}, "19416d9a true; 19416d9a true; 00000000 true; 40000000 true"},
		{[]float32{1e-22}, []float32{0}, "1af1c901 true; 1af1c901 true; 1aef7751 true; 40000000 true"},
	}
}

func TestMisses(t *testing.T) {
	rows := missRows()
	for _, wrong := range wrongSeries() {
		rows = append(rows, missRow{wrong, wrong, noMisses}, missRow{wrong, []float32{1}, noMisses}, missRow{[]float32{1}, wrong, noMisses},
			missRow{wrong, []float32{1, 2, 3}, noMisses}, missRow{[]float32{1, 2, 3}, wrong, noMisses},
			missRow{wrong, repeated(float32(1), impl.MaxLong), noMisses}, missRow{repeated(float32(1), impl.MaxLong), wrong, noMisses})
	}
	for _, row := range rows {
		expect(t, "misses of "+shown(row.list, row.guesses), missMeasures(row.list, row.guesses), row.want)
	}
}

func TestScaledMiss(t *testing.T) {
	minusZero := fromBits(negZero)
	type scaledRow struct {
		past, list, guesses []float32
		period              int64
		want                string
	}
	rows := []scaledRow{
		{[]float32{0, 2}, []float32{1}, []float32{5}, 1, "40000000 true"},
		{[]float32{1, 3, 0, 4}, []float32{1, 2}, []float32{2, 5}, 1, "3f2aaaab true"},
		{[]float32{1, 3, 0, 4}, []float32{1, 2}, []float32{2, 5}, 2, "40000000 true"},
		{rough(), wavy(), rough(), 1, "411875bd true"},
		{rough(), wavy(), rough(), 5, "411e6d66 true"},
		{wavy(), heights(), wholeNumbers(14), 3, "4345002a true"},
		{tiny(), tiny(), []float32{1, 2, 3, 4, 5}, 2, "00000000 false"},
		{steep(), rough(), wavy(), 1, "22dae1b9 true"},
		{wholeNumbers(impl.MaxLong), []float32{0.1, 0.2}, []float32{0.4, 0.3}, impl.MaxLong - 1, "36405983 true"},
		{wholeNumbers(impl.MaxLong)[1:], []float32{0.1, 0.2}, []float32{0.4, 0.3}, 1, "36d81a9c true"},
		{wholeNumbers(impl.MaxLong + 1), []float32{0.1, 0.2}, []float32{0.4, 0.3}, 1, "00000000 false"},
		{[]float32{1, 2}, wholeNumbers(impl.MaxLong + 1), wholeNumbers(impl.MaxLong + 1), 1, "00000000 false"},
		// Periods of 0, of 1, of the last one that is a lag, and of one more.
		{[]float32{1, 2, 4}, []float32{1}, []float32{2}, 0, "00000000 false"},
		{[]float32{1, 2, 4}, []float32{1}, []float32{2}, 1, "3f2aaaab true"},
		{[]float32{1, 2, 4}, []float32{1}, []float32{2}, 2, "3eaaaaab true"},
		{[]float32{1, 2, 4}, []float32{1}, []float32{2}, 3, "00000000 false"},
		{[]float32{1, 2, 4}, []float32{1}, []float32{2}, 4, "00000000 false"},
		{[]float32{1}, []float32{1}, []float32{2}, 1, "00000000 false"},
		// A mean of differences that is 0.
		{[]float32{4, 4, 4}, []float32{1}, []float32{2}, 1, "00000000 false"},
		{[]float32{4, 4, 4}, []float32{1}, []float32{1}, 1, "00000000 false"},
		{[]float32{1, 5, 1, 5}, []float32{1}, []float32{2}, 2, "00000000 false"},
		{[]float32{1, 5, 1, 5}, []float32{1}, []float32{2}, 1, "3e800000 true"},
		{[]float32{0, minusZero}, []float32{1}, []float32{2}, 1, "00000000 false"},
		{[]float32{0, fromBits(1), fromBits(1), fromBits(1), fromBits(1)}, []float32{0}, []float32{0}, 1, "00000000 false"},
		{[]float32{0, fromBits(1)}, []float32{0}, []float32{fromBits(1)}, 1, "3f800000 true"},
		{[]float32{3, -3, 3}, []float32{minusZero}, []float32{minusZero}, 1, "00000000 true"},
		// Guesses of another length.
		{[]float32{1, 2}, []float32{1, 2}, []float32{1}, 1, "00000000 false"},
		{[]float32{1, 2}, []float32{1}, []float32{1, 2}, 1, "00000000 false"},
		{[]float32{1, 2}, nil, nil, 1, "00000000 false"},
		// Both means, or the quotient, are not finite, or only just are.
		{[]float32{0, fromBits(1)}, []float32{1}, []float32{2}, 1, "00000000 false"},
		{[]float32{0, 1e-20}, []float32{1e18}, []float32{0}, 1, "7e967699 true"},
		{[]float32{0, 1e-20}, []float32{1e19}, []float32{0}, 1, "00000000 false"},
		{[]float32{3e38, -3e38}, []float32{1}, []float32{2}, 1, "00000000 false"},
		{[]float32{0, 1}, []float32{3e38}, []float32{-3e38}, 1, "00000000 false"},
		{[]float32{0, 3e38}, []float32{3e38}, []float32{0}, 1, "3f800000 true"},
		{[]float32{0, 3e38, 0}, []float32{1}, []float32{2}, 1, "00000000 false"},
	}
	for _, wrong := range wrongSeries() {
		rows = append(rows, scaledRow{wrong, []float32{1}, []float32{2}, 1, noNumber}, scaledRow{[]float32{0, 2}, wrong, wrong, 1, noNumber},
			scaledRow{[]float32{0, 2}, wrong, []float32{2}, 1, noNumber}, scaledRow{[]float32{0, 2}, []float32{2}, wrong, 1, noNumber})
	}
	for _, far := range farInts() {
		rows = append(rows, scaledRow{[]float32{0, 2}, []float32{1}, []float32{2}, far, noNumber})
	}
	for _, row := range rows {
		miss, ok := impl.ScaledMiss(row.past, row.list, row.guesses, row.period)
		expect(t, "scaled miss of "+shown(row.past, row.list, row.guesses, row.period), shown(miss, ok), row.want)
	}
}

func TestQuantileMiss(t *testing.T) {
	minusZero := fromBits(negZero)
	type quantileRow struct {
		list, guesses []float32
		share         float32
		want          string
	}
	rows := []quantileRow{
		{[]float32{4, 0}, []float32{0, 4}, 0.75, "40000000 true"},
		{[]float32{4}, []float32{0}, 0.75, "40400000 true"},
		{[]float32{0}, []float32{4}, 0.75, "3f800000 true"},
		{rough(), wavy(), 0.3, "4288fd3b true"},
		{rough(), wavy(), 0.9, "41809ddf true"},
		{wavy(), rough(), 0.3, "420632c6 true"},
		{tiny(), []float32{fromBits(2), 0, 0, 1e-38, fromBits(0x900000)}, 0.7, "001d3c40 true"},
		{steep(), []float32{1, -1e19, 3e19, 1e18, 0, 0}, 0.1, "5e0f2052 true"},
		{wholeNumbers(impl.MaxLong), repeated(float32(40000), impl.MaxLong), 0.55, "463e440c true"},
		{wholeNumbers(impl.MaxLong + 1), repeated(float32(40000), impl.MaxLong+1), 0.55, "00000000 false"},
		{[]float32{0.7, 0.1}, []float32{0.1, 0.7}, 0.1, "3e999999 true"},
		// Shares of 0 and of 1, and beyond.
		{[]float32{4, 0, 7}, []float32{0, 3, 7}, 0, "3f800000 true"},
		{[]float32{4, 0, 7}, []float32{0, 3, 7}, minusZero, "3f800000 true"},
		{[]float32{4, 0, 7}, []float32{0, 3, 7}, 1, "3faaaaab true"},
		{[]float32{4, 0, 7}, []float32{0, 3, 7}, fromBits(0x3f7fffff), "3faaaaab true"},
		{[]float32{4, 0, 7}, []float32{0, 3, 7}, fromBits(1), "3f800000 true"},
		{[]float32{4, 0, 7}, []float32{0, 3, 7}, fromBits(0x3f800001), "00000000 false"},
		{[]float32{4, 0, 7}, []float32{0, 3, 7}, -fromBits(1), "00000000 false"},
		{[]float32{4, 0, 7}, []float32{0, 3, 7}, 2, "00000000 false"},
		{[]float32{4, 0, 7}, []float32{0, 3, 7}, -1, "00000000 false"},
		// Misses of 0.
		{[]float32{5}, []float32{5}, 0.3, "00000000 true"},
		{[]float32{minusZero}, []float32{0}, 0.3, "00000000 true"},
		{[]float32{0}, []float32{minusZero}, 1, "00000000 true"},
		// Guesses of another length.
		{[]float32{1, 2}, []float32{1}, 0.5, "00000000 false"},
		{[]float32{1}, []float32{1, 2}, 0.5, "00000000 false"},
		// A miss, or the sum, is not finite, or only just is.
		{[]float32{3e38}, []float32{-3e38}, 0, "00000000 false"},
		{[]float32{3e38}, []float32{-3e38}, 0.5, "00000000 false"},
		{[]float32{-3e38}, []float32{3e38}, 1, "00000000 false"},
		{[]float32{3e38}, []float32{0}, 1, "7f61b1e6 true"},
		{[]float32{3e38, 3e38}, []float32{0, 0}, 1, "00000000 false"},
		{[]float32{3e38, 3e38}, []float32{0, 0}, 0.5, "7ee1b1e6 true"},
		{[]float32{-3e38, -3e38}, []float32{0, 0}, 0.25, "00000000 false"},
		{[]float32{-3e38, -3e38}, []float32{0, 0}, 0.75, "7e61b1e6 true"},
	}
	for _, wrong := range wrongSeries() {
		rows = append(rows, quantileRow{wrong, wrong, 0.5, noNumber}, quantileRow{wrong, []float32{1}, 0.5, noNumber}, quantileRow{[]float32{1}, wrong, 0.5, noNumber})
	}
	for _, share := range wrongShareNumbers() {
		rows = append(rows, quantileRow{[]float32{1, 2}, []float32{2, 1}, share, noNumber})
	}
	for _, row := range rows {
		miss, ok := impl.QuantileMiss(row.list, row.guesses, row.share)
		expect(t, "quantile miss of "+shown(row.list, row.guesses, row.share), shown(miss, ok), row.want)
	}
}

func TestCoverOf(t *testing.T) {
	minusZero := fromBits(negZero)
	type coverRow struct {
		lows, highs, list []float32
		want              string
	}
	rows := []coverRow{
		{[]float32{0, 0}, []float32{1, 1}, []float32{1, 2}, "3f000000 true"},
		{[]float32{0, 0, 0}, []float32{2, 2, 2}, []float32{1, -1, 3}, "3eaaaaab true"},
		{rough(), wavy(), heights()[:12], "3ed55555 true"},
		{[]float32{-9, 0, -9, 5, 0, -50, 5, -1, 12, -4, 50, 0}, []float32{5, 9, 9, 9, 900, -40, 5.5, 0.1, 13, -3, 99, 1}, wavy(), "3f2aaaab true"},
		{repeated(float32(0), impl.MaxLong), repeated(float32(50000), impl.MaxLong), wholeNumbers(impl.MaxLong), "3f055555 true"},
		{repeated(float32(0), impl.MaxLong+1), repeated(float32(50000), impl.MaxLong+1), wholeNumbers(impl.MaxLong + 1), "00000000 false"},
		// Numbers that are as great as a bound, and just beyond.
		{[]float32{1}, []float32{2}, []float32{1}, "3f800000 true"},
		{[]float32{1}, []float32{2}, []float32{2}, "3f800000 true"},
		{[]float32{1}, []float32{1}, []float32{1}, "3f800000 true"},
		{[]float32{1}, []float32{2}, []float32{fromBits(0x3f7fffff)}, "00000000 true"},
		{[]float32{1}, []float32{2}, []float32{fromBits(0x40000001)}, "00000000 true"},
		{[]float32{0}, []float32{0}, []float32{minusZero}, "3f800000 true"},
		{[]float32{minusZero}, []float32{minusZero}, []float32{0}, "3f800000 true"},
		{[]float32{0}, []float32{fromBits(1)}, []float32{fromBits(1)}, "3f800000 true"},
		{[]float32{-3e38}, []float32{3e38}, []float32{3e38}, "3f800000 true"},
		// A low that is greater than its high.
		{[]float32{2}, []float32{1}, []float32{1.5}, "00000000 true"},
		{[]float32{2, 0}, []float32{1, 2}, []float32{2, 1}, "3f000000 true"},
		{[]float32{2, 2}, []float32{1, 1}, []float32{2, 1}, "00000000 true"},
		{[]float32{3, 0, 0}, []float32{1, 2, 3}, []float32{2, 1, 3}, "3f2aaaab true"},
		// Bounds of another length.
		{[]float32{0}, []float32{1, 1}, []float32{1, 2}, "00000000 false"},
		{[]float32{0, 0}, []float32{1}, []float32{1, 2}, "00000000 false"},
		{[]float32{0, 0}, []float32{1, 1}, []float32{1}, "00000000 false"},
		{[]float32{0, 0, 0}, []float32{1, 1, 1}, []float32{1, 2}, "00000000 false"},
		{nil, nil, nil, "00000000 false"},
		{nil, []float32{1}, []float32{1}, "00000000 false"},
	}
	for _, wrong := range wrongSeries() {
		for _, list := range [][]float32{{1}, {1, 2, 3}, repeated(float32(1), impl.MaxLong)} {
			rows = append(rows, coverRow{wrong, list, list, noNumber}, coverRow{list, wrong, list, noNumber}, coverRow{list, list, wrong, noNumber})
		}
		rows = append(rows, coverRow{wrong, wrong, wrong, noNumber})
	}
	for _, row := range rows {
		cover, ok := impl.CoverOf(row.lows, row.highs, row.list)
		expect(t, "cover of "+shown(row.lows, row.highs, row.list), shown(cover, ok), row.want)
	}
}

func TestRanksMiss(t *testing.T) {
	type ranksRow struct {
		lists [][]float32
		list  []float32
		want  string
	}
	rows := []ranksRow{
		{[][]float32{{5}, {1}}, []float32{2}, "[1 0] true"},
		{[][]float32{{1}, {5}}, []float32{2}, "[0 1] true"},
		{[][]float32{{1}, {5}, {2}, {-7}}, []float32{3}, "[2 0 1 3] true"},
		{[][]float32{rough(), wavy(), heights()[:12], placesOf(12)}, []float32{1, 2, 3, 4, 5, 6, 7, 8, 9, 10, 11, 12}, "[3 0 2 1] true"},
		{[][]float32{wholeNumbers(impl.MaxLong), placesOf(impl.MaxLong)}, repeated(float32(10), impl.MaxLong), "[1 0] true"},
		{[][]float32{wholeNumbers(impl.MaxLong + 1), placesOf(impl.MaxLong + 1)}, repeated(float32(10), impl.MaxLong+1), "[] false"},
		// The root tells more than the size, and the mean: 3 and 0, 2 and 2, 4 and -4.
		{[][]float32{{3, 0}, {2, 2}, {4, -4}}, []float32{0, 0}, "[1 0 2] true"},
		// Equal ones, also those whose misses differ.
		{[][]float32{{5}, {5}, {5}}, []float32{2}, "[0 1 2] true"},
		{[][]float32{{4}, {0}, {2}, {4}, {0}}, []float32{2}, "[2 0 1 3 4] true"},
		{[][]float32{{9}, {4}, {0}, {9}, {4}}, []float32{2}, "[1 2 4 0 3] true"},
		{[][]float32{{3, 4}, {5, 0}, {-4, 3}, {0, 0}}, []float32{0, 0}, "[3 0 1 2] true"},
		{[][]float32{{1e-30}, {0}, {-1e-30}}, []float32{0}, "[0 1 2] true"},
		// 0, 1, MaxWays and MaxWays + 1 lists.
		{nil, []float32{2}, "[] false"},
		{[][]float32{{7}}, []float32{2}, "[0] true"},
		{[][]float32{{7}, {6}, {5}, {4}, {3}, {1}, {2}, {0}}, []float32{2}, "[6 4 5 3 7 2 1 0] true"},
		{[][]float32{{7}, {6}, {5}, {4}, {3}, {1}, {2}, {0}, {2}}, []float32{2}, "[] false"},
		// Lists of different lengths.
		{[][]float32{{7}, {6, 1}}, []float32{2}, "[] false"},
		{[][]float32{{7, 1}, {6, 1}}, []float32{2}, "[] false"},
		{[][]float32{{7}, {6}}, []float32{2, 1}, "[] false"},
		{[][]float32{{7}, {6}}, nil, "[] false"},
		// One root is not finite.
		{[][]float32{{7}, {2e19}}, []float32{0}, "[] false"},
		{[][]float32{{7}, {1.8e19}}, []float32{0}, "[0 1] true"},
		{[][]float32{{3e38}, {7}}, []float32{-3e38}, "[] false"},
	}
	for _, wrong := range wrongSeries() {
		rows = append(rows, ranksRow{[][]float32{{1}}, wrong, noNumbers}, ranksRow{[][]float32{wrong}, wrong, noNumbers})
		for place := range impl.MaxWays {
			lists := repeated([]float32{1, 2, 3}, impl.MaxWays)
			lists[place] = wrong
			rows = append(rows, ranksRow{lists, []float32{1, 2, 3}, noNumbers})
		}
	}
	for _, row := range rows {
		ranks, ok := impl.RanksMiss(row.lists, row.list)
		expect(t, "ranks of "+shown(row.lists, row.list), shown(ranks, ok), row.want)
	}
}
