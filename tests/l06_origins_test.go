package tests

import (
	"math"
	"testing"

	"loop.example/g01375/impl"
)

// The bits in the tests of chapter 6 were computed outside of Go, each
// operation rounded on its own.

func TestForecastLimits(t *testing.T) {
	expect(t, "limits", shown(impl.MaxWays, impl.MaxParts, impl.MaxKind), "8 12 5")
}

type kindRow struct {
	list                []float32
	kind, period, count int64
	want                string
}

func kindRows() []kindRow {
	return []kindRow{
		{[]float32{1, 2, 3}, 0, 1, 2, "[40400000 40400000] true"},
		{[]float32{1, 2, 3}, 1, 2, 3, "[40000000 40400000 40000000] true"},
		{[]float32{1, 2, 3}, 2, 1, 1, "[40000000] true"},
		{[]float32{1, 2, 3}, 3, 1, 2, "[40800000 40a00000] true"},
		{[]float32{1, 2, 3}, 4, 1, 2, "[3fe7ae14 3fe7ae14] true"},
		{rough(), 0, 5, 3, "[c0c00000 c0c00000 c0c00000] true"},
		{rough(), 1, 5, 12, "[41980000 bf333333 40b00000 3f8ccccd c0c00000 41980000 bf333333 40b00000 3f8ccccd c0c00000 41980000 bf333333] true"},
		{rough(), 2, 5, 3, "[401b851f 401b851f 401b851f] true"},
		{rough(), 3, 5, 12, "[c0d2e8ba c0e5d174 c0f8ba2e c105d174 c10f45d1 c118ba2e c1222e8c c12ba2e8 c1351746 c13e8ba2 c1480000 c151745d] true"},
		{rough(), 4, 5, 3, "[3f16f304 3f16f304 3f16f304] true"},
		{wavy(), 1, 3, 7, "[c0533333 42c7cccd 3f800000 c0533333 42c7cccd 3f800000 c0533333] true"},
		{wavy(), 2, 3, 2, "[42b395c3 42b395c3] true"},
		{wavy(), 3, 3, 7, "[3f4f2095 3f1e412a 3edac37e 3e720950 3d3a2e90 be14f208 beac37d8] true"},
		{wavy(), 4, 3, 2, "[423632bb 423632bb] true"},
		{tiny(), 1, 3, 4, "[80000003 00800001 80000002 80000003] true"},
		{tiny(), 2, 3, 4, "[00333332 00333332 00333332 00333332] true"},
		{tiny(), 3, 3, 4, "[80000003 80000004 80000005 80000006] true"},
		{tiny(), 4, 3, 4, "[00280d1b 00280d1b 00280d1b 00280d1b] true"},
		{steep(), 2, 3, 1, "[5e520468] true"},
		{steep(), 3, 3, 4, "[ddde0b6b de5e0b6b dea68890 dede0b6b] true"},
		{steep(), 4, 3, 1, "[5de27c8d] true"},
		// A single number, for which there is no line.
		{[]float32{7}, 0, 1, 2, "[40e00000 40e00000] true"},
		{[]float32{7}, 1, 1, 2, "[40e00000 40e00000] true"},
		{[]float32{7}, 2, 1, 2, "[40e00000 40e00000] true"},
		{[]float32{7}, 3, 1, 2, "[40e00000 40e00000] true"},
		{[]float32{7}, 4, 1, 2, "[40e00000 40e00000] true"},
		{[]float32{3e38}, 3, 1, impl.MaxReach, "[7f61b1e6 7f61b1e6 7f61b1e6 7f61b1e6 7f61b1e6 7f61b1e6 7f61b1e6 7f61b1e6 7f61b1e6 7f61b1e6 7f61b1e6 7f61b1e6 7f61b1e6 7f61b1e6 7f61b1e6 7f61b1e6 7f61b1e6 7f61b1e6 7f61b1e6 7f61b1e6 7f61b1e6 7f61b1e6 7f61b1e6 7f61b1e6 7f61b1e6 7f61b1e6 7f61b1e6 7f61b1e6 7f61b1e6 7f61b1e6 7f61b1e6 7f61b1e6] true"},
		// As many numbers as there may be, and one more.
		{wholeNumbers(impl.MaxLong), 0, impl.MaxLong, 2, "[47884900 47884900] true"},
		{wholeNumbers(impl.MaxLong), 1, impl.MaxLong, 3, "[00000000 45f87000 46f7f400] true"},
		{wholeNumbers(impl.MaxLong), 2, impl.MaxLong, 1, "[473feb55] true"},
		{wholeNumbers(impl.MaxLong), 3, impl.MaxLong, 4, "[4789b841 478b2781 478c96c2 478e0603] true"},
		{wholeNumbers(impl.MaxLong), 4, impl.MaxLong, 2, "[477df141 477df141] true"},
		{wholeNumbers(impl.MaxLong + 1), 0, 1, 1, "[] false"},
		{wholeNumbers(impl.MaxLong + 1), 1, 1, 1, "[] false"},
		{wholeNumbers(impl.MaxLong + 1), 3, 1, 1, "[] false"},
	}
}

// kindRowsAtLimits are rows with kinds, periods and counts at their limits,
// with zeros of both signs, and with numbers that are too great.
func kindRowsAtLimits() []kindRow {
	minusZero := fromBits(negZero)
	return []kindRow{
		// Kinds that there are not.
		{[]float32{1, 2, 3}, -1, 1, 1, "[] false"},
		{[]float32{1, 2, 3}, impl.MaxKind - 1, 1, 1, "[3fe7ae14] true"},
		{[]float32{1, 2, 3}, impl.MaxKind, 1, 1, "[] false"},
		{[]float32{1, 2, 3}, impl.MaxKind + 1, 1, 1, "[] false"},
		// Periods of 0, of 1, of as many as there are, and of one more.
		{[]float32{1, 2, 3}, 0, 0, 1, "[] false"},
		{[]float32{1, 2, 3}, 1, 0, 1, "[] false"},
		{[]float32{1, 2, 3}, 1, 1, 4, "[40400000 40400000 40400000 40400000] true"},
		{[]float32{1, 2, 3}, 1, 3, 7, "[3f800000 40000000 40400000 3f800000 40000000 40400000 3f800000] true"},
		{[]float32{1, 2, 3}, 1, 4, 1, "[] false"},
		{[]float32{1, 2, 3}, 0, 3, 1, "[40400000] true"},
		{[]float32{1, 2, 3}, 0, 4, 1, "[] false"},
		{[]float32{1, 2, 3}, 2, 4, 1, "[] false"},
		{[]float32{1, 2, 3}, 3, 4, 1, "[] false"},
		{[]float32{1, 2, 3}, 4, 4, 1, "[] false"},
		// Counts of 0, of 1, and so on.
		{[]float32{1, 2, 4}, 3, 1, 0, "[] false"},
		{[]float32{1, 2, 4}, 3, 1, 1, "[40b00000] true"},
		{[]float32{1, 2, 4}, 3, 1, impl.MaxReach, "[40b00000 40e00000 41080000 41200000 41380000 41500000 41680000 41800000 418c0000 41980000 41a40000 41b00000 41bc0000 41c80000 41d40000 41e00000 41ec0000 41f80000 42020000 42080000 420e0000 42140000 421a0000 42200000 42260000 422c0000 42320000 42380000 423e0000 42440000 424a0000 42500000] true"},
		{[]float32{1, 2, 4}, 3, 1, impl.MaxReach + 1, "[] false"},
		{[]float32{1, 2, 4}, 1, 3, impl.MaxReach, "[3f800000 40000000 40800000 3f800000 40000000 40800000 3f800000 40000000 40800000 3f800000 40000000 40800000 3f800000 40000000 40800000 3f800000 40000000 40800000 3f800000 40000000 40800000 3f800000 40000000 40800000 3f800000 40000000 40800000 3f800000 40000000 40800000 3f800000 40000000] true"},
		{[]float32{1, 2, 4}, 0, 1, impl.MaxReach + 1, "[] false"},
		// The k-th number is told by k times the quotient, which is rounded.
		{[]float32{0.1, 0.2, 0.1, 0.4}, 3, 1, 6, "[3f000000 3f19999a 3f333334 3f4ccccd 3f666666 3f800000] true"},
		{[]float32{1e8, 1, 1e8 + 8}, 3, 1, 3, "[4cbebc22 4cbebc22 4cbebc22] true"},
		// Zeros of both signs.
		{[]float32{minusZero}, 0, 1, 1, "[80000000] true"},
		{[]float32{minusZero}, 1, 1, 1, "[80000000] true"},
		{[]float32{minusZero}, 2, 1, 1, "[00000000] true"},
		{[]float32{minusZero}, 3, 1, 1, "[00000000] true"},
		{[]float32{minusZero}, 4, 1, 1, "[80000000] true"},
		{[]float32{minusZero, 0}, 1, 2, 3, "[80000000 00000000 80000000] true"},
		{[]float32{0, minusZero}, 3, 1, 2, "[80000000 80000000] true"},
		{[]float32{minusZero, 0}, 4, 1, 2, "[00000000 00000000] true"},
		// What is told is not finite, or only just is.
		{[]float32{3e38, 3e38}, 0, 1, 1, "[7f61b1e6] true"},
		{[]float32{3e38, 3e38}, 1, 1, 1, "[7f61b1e6] true"},
		{[]float32{3e38, 3e38}, 2, 1, 1, "[] false"},
		{[]float32{3e38, 3e38}, 3, 1, 1, "[7f61b1e6] true"},
		{[]float32{3e38, 3e38}, 4, 1, 1, "[7f61b1e6] true"},
		{[]float32{-3e38, 3e38}, 2, 1, 1, "[00000000] true"},
		{[]float32{-3e38, 3e38}, 3, 1, 1, "[] false"},
		{[]float32{-3e38, 3e38, -3e38}, 3, 1, 1, "[ff61b1e6] true"},
		{[]float32{3e38, -3e38}, 4, 1, 1, "[] false"},
		{[]float32{3e38, -3e38, 1}, 4, 1, 1, "[] false"},
		{[]float32{1e38, 2e38}, 3, 1, 1, "[7f61b1e6] true"},
		{[]float32{1e38, 2e38}, 3, 1, 2, "[] false"},
		{[]float32{-1e38, 1e38}, 3, 1, 1, "[7f61b1e6] true"},
		{[]float32{3e38, 1, -3e37}, 3, 1, 1, "[ff12b3a2] true"},
	}
}

func TestForecastBy(t *testing.T) {
	rows := append(kindRows(), kindRowsAtLimits()...)
	for kind := range int64(impl.MaxKind) {
		for _, wrong := range wrongSeries() {
			rows = append(rows, kindRow{wrong, kind, 1, 1, noNumbers})
		}
		for _, far := range farInts() {
			rows = append(rows, kindRow{rough(), far, 1, 1, noNumbers}, kindRow{rough(), kind, far, 1, noNumbers}, kindRow{rough(), kind, 1, far, noNumbers})
		}
	}
	for _, row := range rows {
		ahead, ok := impl.ForecastBy(row.list, row.kind, row.period, row.count)
		expect(t, "forecast of "+shown(row.list, row.kind, row.period, row.count), shown(ahead, ok), row.want)
	}
}

type rollRow struct {
	list                       []float32
	kind, period, first, ahead int64
	want                       string
}

func rollRows() []rollRow {
	return []rollRow{
		{[]float32{1, 2, 3}, 0, 1, 1, 1, "[3f800000 3f800000] true"},
		{[]float32{1, 2, 4, 8}, 0, 1, 1, 2, "[40400000 40c00000] true"},
		{rough(), 0, 3, 3, 1, "[4174cccd c13fd70a c1068f5c 41299999 41866666 c19d999a 40c66666 c08ccccd c0e33333] true"},
		{rough(), 1, 3, 3, 1, "[41380000 c0e7ae14 c0a33332 c11ccccd 4197eb85 40f66666 40533333 c18f3333 c0a9999a] true"},
		{rough(), 2, 3, 3, 1, "[41284444 c08347ae c13b126e 3f5b4e7e 418c4638 c08b70a4 4014e81b c0139582 c113244e] true"},
		{rough(), 3, 3, 3, 1, "[4189999a c17d2c5f c1049999 4146147a 41842222 c1b2be2c 40cb3333 c09e93e9 c0e51eb8] true"},
		{rough(), 4, 3, 3, 1, "[41338f5c c0844bc6 c134dd14 402bfb5f 419572cb c0d3f1c6 3fc827d4 c0538baa c1169ed7] true"},
		{rough(), 0, 2, 4, 3, "[c11ccccd 4197eb85 40f66666 40533333 c18f3333 c0a9999a] true"},
		{rough(), 1, 2, 4, 3, "[40b00000 40e00000 bf35c28f 415e6666 bf8ccccd c1c80000] true"},
		{rough(), 2, 2, 4, 3, "[bff4ccce 417b53f8 c002c5fa 408118de c023ae16 c112c5f9] true"},
		{rough(), 3, 2, 4, 3, "[c1aa6666 419adc29 4150a3d7 401ccccc c1cea0ea c09b3333] true"},
		{rough(), 4, 2, 4, 3, "[bff8dd2e 4180c4a9 be59e3ac 40a5cb2e c09a582d c11efb06] true"},
		{wavy(), 1, 4, 5, 6, "[42b74ccd 3f333333] true"},
		{wavy(), 3, 1, 1, 2, "[40a4cccd 4169999a 4476a666 c2362c60 c4ba9e66 4286872b 40c66666 c0204638 42aa199a 40b71c72] true"},
		{wavy(), 4, 1, 1, 2, "[40a4cccd bf87ae12 447924ac c2466546 c3941f02 c345043e c2fe38a0 c2ca18ca 41ddcf14 c242207c] true"},
		{tiny(), 2, 1, 1, 2, "[80000004 00400001 802aaaac] true"},
		{steep(), 3, 1, 2, 1, "[600e3f51 dfdca826 ded2f13f 5f502ab4] true"},
		// The last places, and aheads of 1, of MaxReach, and of others.
		{wholeNumbers(impl.MaxLong), 3, 1, 90, 1, "[46863f09 47003e97 c749ef30 477cc3b8 c69d7220 c5802560] true"},
		{wholeNumbers(impl.MaxLong), 1, 64, 64, impl.MaxReach, "[47660600] true"},
		{wholeNumbers(impl.MaxLong), 3, 60, 60, impl.MaxReach, "[c6c5bc9c 46489400 c628f1f8 461ba128 46adc9a6] true"},
		{wholeNumbers(impl.MaxLong), 3, 60, 64, impl.MaxReach, "[46adc9a6] true"},
		{wholeNumbers(impl.MaxLong), 3, 60, 65, impl.MaxReach, "[] false"},
		{wholeNumbers(impl.MaxLong), 3, 60, 60, impl.MaxReach + 1, "[] false"},
		{wholeNumbers(impl.MaxLong), 3, 60, 60, 0, "[] false"},
		{wholeNumbers(impl.MaxLong + 1), 0, 1, 90, 1, "[] false"},
		// Places from first on: less than period, as many, the last one, and behind it.
		{[]float32{1, 2, 4, 8}, 1, 2, 1, 1, "[] false"},
		{[]float32{1, 2, 4, 8}, 0, 2, 1, 1, "[] false"},
		{[]float32{1, 2, 4, 8}, 1, 2, 2, 1, "[40400000 40c00000] true"},
		{[]float32{1, 2, 4, 8}, 1, 3, 3, 1, "[40e00000] true"},
		{[]float32{1, 2, 4, 8}, 1, 4, 4, 1, "[] false"},
		{[]float32{1, 2, 4, 8}, 0, 1, 3, 1, "[40800000] true"},
		{[]float32{1, 2, 4, 8}, 0, 1, 4, 1, "[] false"},
		{[]float32{1, 2, 4, 8}, 0, 1, 5, 1, "[] false"},
		{[]float32{1, 2, 4, 8}, 0, 1, 0, 1, "[] false"},
		{[]float32{1, 2, 4, 8}, 0, 0, 0, 1, "[] false"},
		{[]float32{1, 2, 4, 8}, 0, 0, 1, 1, "[] false"},
		{[]float32{1, 2, 4, 8}, 0, -1, 1, 1, "[] false"},
		{[]float32{1, 2, 4, 8}, 0, -1, 0, 1, "[] false"},
		{[]float32{7}, 0, 1, 1, 1, "[] false"},
		{[]float32{7}, 0, 1, 0, 1, "[] false"},
		// Origins behind which there is no number: some of them, all but one, and all.
		{[]float32{1, 2, 4, 8, 3}, 0, 1, 1, 3, "[40e00000 3f800000] true"},
		{[]float32{1, 2, 4, 8, 3}, 0, 1, 2, 3, "[3f800000] true"},
		{[]float32{1, 2, 4, 8, 3}, 0, 1, 3, 3, "[] false"},
		{[]float32{1, 2, 4, 8, 3}, 0, 1, 1, 4, "[40000000] true"},
		{[]float32{1, 2, 4, 8, 3}, 0, 1, 1, 5, "[] false"},
		{[]float32{1, 2, 4, 8, 3}, 0, 1, 4, 2, "[] false"},
		{[]float32{1, 2}, 0, 1, 1, impl.MaxReach, "[] false"},
	}
}

// rollRowsAtLimits are rows with kinds at their limits, with zeros of both
// signs, and with numbers that are too great.
func rollRowsAtLimits() []rollRow {
	minusZero := fromBits(negZero)
	return []rollRow{
		// Kinds that there are not.
		{[]float32{1, 2, 4, 8}, -1, 1, 1, 1, "[] false"},
		{[]float32{1, 2, 4, 8}, impl.MaxKind, 1, 1, 1, "[] false"},
		{[]float32{1, 2, 4, 8}, impl.MaxKind - 1, 1, 1, 1, "[3f800000 402ccccd 40bc7ae1] true"},
		// Zeros of both signs.
		{[]float32{minusZero, minusZero, 0}, 0, 1, 1, 1, "[00000000 00000000] true"},
		{[]float32{0, minusZero, minusZero}, 0, 1, 1, 1, "[80000000 00000000] true"},
		{[]float32{minusZero, minusZero}, 3, 1, 1, 1, "[80000000] true"},
		// A miss is not finite, or only just is.
		{[]float32{3e38, -3e38}, 0, 1, 1, 1, "[] false"},
		{[]float32{1, 2, 3e38, -3e38}, 0, 1, 1, 1, "[] false"},
		{[]float32{1e38, -2e38}, 0, 1, 1, 1, "[ff61b1e6] true"},
		{[]float32{3e38, -3e38, 3e38}, 1, 2, 2, 1, "[00000000] true"},
		// A forecast fails where a number is behind it, and where none is.
		{[]float32{3e38, 3e38, 1, 1}, 2, 1, 1, 2, "[] false"},
		{[]float32{3e38, 3e38, 1}, 2, 1, 1, 2, "[ff61b1e6] true"},
		{[]float32{3e38, -3e38, 1, 1}, 4, 1, 1, 3, "[ff61b1e6] true"},
		{[]float32{3e38, -3e38, 1, 1}, 4, 1, 1, 2, "[] false"},
		{[]float32{1e38, 2e38, 3e38, 1}, 3, 1, 2, 1, "[] false"},
		{[]float32{1e38, 2e38, 3e38, 1}, 3, 1, 2, 2, "[] false"},
		{[]float32{1e38, 2e38, 3e38, 1}, 3, 1, 3, 1, "[] false"},
	}
}

func TestRollMisses(t *testing.T) {
	rows := append(rollRows(), rollRowsAtLimits()...)
	for kind := range int64(impl.MaxKind) {
		for _, wrong := range wrongSeries() {
			rows = append(rows, rollRow{wrong, kind, 1, 1, 1, noNumbers})
		}
		for _, far := range farInts() {
			rows = append(rows, rollRow{rough(), far, 1, 1, 1, noNumbers}, rollRow{rough(), kind, far, 1, 1, noNumbers},
				rollRow{rough(), kind, 1, far, 1, noNumbers}, rollRow{rough(), kind, 1, 1, far, noNumbers},
				rollRow{rough(), kind, far, far, far, noNumbers})
		}
		rows = append(rows, rollRow{rough(), kind, math.MinInt64, 1, 1, noNumbers}, rollRow{rough(), kind, 1, math.MaxInt64 - 1, 2, noNumbers})
	}
	for _, row := range rows {
		misses, ok := impl.RollMisses(row.list, row.kind, row.period, row.first, row.ahead)
		expect(t, "misses of "+shown(row.list, row.kind, row.period, row.first, row.ahead), shown(misses, ok), row.want)
	}
}

type bestKindRow struct {
	list                 []float32
	period, first, ahead int64
	want                 string
}

func TestBestKind(t *testing.T) {
	minusZero := fromBits(negZero)
	rows := []bestKindRow{
		{[]float32{1, 2, 3, 4}, 1, 2, 1, "3 true"},
		{[]float32{1, 1, 2, 2, 3, 3, 4}, 1, 1, 1, "3 true"},
		{[]float32{1, 5, 2, 1, 5, 2, 1, 5}, 3, 3, 1, "1 true"},
		{[]float32{1, 5, 2, 1, 5, 2, 1, 5}, 3, 3, 4, "1 true"},
		{[]float32{1, -1, 2, -2, 1, -1, 1, -1}, 1, 2, 1, "2 true"},
		{[]float32{8, 8, 9, 12, 9, 12, 11, 12, 10, 12}, 1, 1, 1, "4 true"},
		{rough(), 3, 3, 1, "2 true"},
		{rough(), 2, 5, 3, "2 true"},
		{wavy(), 4, 5, 2, "2 true"},
		{tiny(), 1, 1, 1, "0 true"},
		{heights(), 6, 6, 1, "1 true"},
		{heights(), 6, 6, 2, "1 true"},
		{heights(), 3, 3, 2, "2 true"},
		{wholeNumbers(impl.MaxLong), 3, 20, impl.MaxReach, "2 true"},
		{wholeNumbers(impl.MaxLong), 3, 20, impl.MaxReach + 1, "0 false"},
		{wholeNumbers(impl.MaxLong + 1), 3, 20, 1, "0 false"},
		// Kinds that miss equally: all of them, 1 and 2, 2 and 3, and 0, 1 and 3.
		{[]float32{4, 4, 4, 4}, 1, 1, 1, "0 true"},
		{[]float32{4, 9}, 1, 1, 1, "0 true"},
		{[]float32{minusZero, 0, minusZero}, 1, 1, 1, "0 true"},
		{[]float32{0, -12, 24, 2}, 3, 3, 1, "1 true"},
		{[]float32{0, 20, 4, 7}, 1, 3, 1, "2 true"},
		{[]float32{10, 10, 0, 10, 10}, 1, 4, 1, "0 true"},
		// The first and the last origins, and none.
		{[]float32{1, 2, 3, 4}, 1, 3, 1, "3 true"},
		{[]float32{1, 2, 3, 4}, 1, 3, 2, "0 false"},
		{[]float32{1, 2, 3, 4}, 1, 4, 1, "0 false"},
		{[]float32{1, 2, 3, 4}, 3, 2, 1, "0 false"},
		{[]float32{1, 2, 3, 4}, 3, 3, 1, "3 true"},
		{[]float32{1, 2, 3, 4}, 4, 4, 1, "0 false"},
		{[]float32{1, 2, 3, 4}, 0, 1, 1, "0 false"},
		{[]float32{1, 2, 3, 4}, 0, 0, 1, "0 false"},
		{[]float32{1, 2, 3, 4}, 1, 0, 1, "0 false"},
		{[]float32{1, 2, 3, 4}, 1, 1, 0, "0 false"},
		{[]float32{1, 2, 3, 4}, 1, 1, 3, "0 true"},
		{[]float32{1, 2, 3, 4}, 1, 1, 4, "0 false"},
		{[]float32{7}, 1, 1, 1, "0 false"},
		// One kind fails, or the mean of its squares is not finite, or only just is.
		{[]float32{3e38, 3e38, 1}, 1, 1, 1, "0 false"},
		{[]float32{3e38, -3e38, 1}, 2, 2, 1, "0 false"},
		{[]float32{1e38, 2e38, 2.5e38}, 1, 2, 1, "0 false"},
		{[]float32{0, 1e19, 3e19}, 1, 2, 1, "0 false"},
		{[]float32{0, 1e19, 2.5e19}, 1, 2, 1, "0 false"},
		{[]float32{0, 1e19, 1.5e19}, 1, 2, 1, "3 true"},
		{[]float32{0, 2e19, 0, 2e19}, 2, 2, 1, "0 false"},
	}
	for _, wrong := range wrongSeries() {
		rows = append(rows, bestKindRow{wrong, 1, 1, 1, "0 false"})
	}
	for _, far := range farInts() {
		rows = append(rows, bestKindRow{rough(), far, 1, 1, "0 false"}, bestKindRow{rough(), 1, far, 1, "0 false"}, bestKindRow{rough(), 1, 1, far, "0 false"})
	}
	for _, row := range rows {
		kind, ok := impl.BestKind(row.list, row.period, row.first, row.ahead)
		expect(t, "best kind for "+shown(row.list, row.period, row.first, row.ahead), shown(kind, ok), row.want)
	}
}

func TestRollsShared(t *testing.T) {
	rows := []struct {
		lists                               [][]float32
		kind, period, first, ahead, workers int64
		want                                string
	}{
		{[][]float32{{1, 2, 3}}, 0, 1, 1, 1, 2, "[3f800000] true"},
		{[][]float32{{1, 2, 4}, {5, 5}, {0.1, 0.2, 0.4, 0.3}}, 0, 1, 1, 1, 3, "[40200000 00000000 3ca3d70b] true"},
		{[][]float32{rough(), wavy(), heights(), wholeNumbers(impl.MaxLong)}, 3, 2, 4, 3, impl.MaxWorkers, "[438d41cd 48fa1084 43d1f657 4eb84cb2] true"},
		{[][]float32{rough(), wavy(), heights(), wholeNumbers(impl.MaxLong)}, 4, 2, 4, 3, 1, "[42893f85 46c411bc 42c4f065 4e35ef75] true"},
		{[][]float32{rough(), wavy(), tiny()}, 2, 1, 1, 2, 2, "[42829964 47d7262b 00000000] true"},
		// Squares, their sum, or none of both are not finite.
		{[][]float32{{1, 2}, {0, 2e19}}, 0, 1, 1, 1, 2, "[] false"},
		{[][]float32{{1, 2}, {0, 1.8e19}}, 0, 1, 1, 1, 2, "[3f800000 7f73c022] true"},
		{[][]float32{{1, 2}, {0, 1.8e19, 0}}, 0, 1, 1, 1, 2, "[] false"},
		// One series has no origins.
		{[][]float32{{1, 2, 3}, {1, 2}}, 0, 1, 1, 2, 2, "[] false"},
		{[][]float32{{1, 2, 3}, {1, 2}}, 0, 1, 2, 1, 2, "[] false"},
		{[][]float32{{1, 2, 3}, {1, 2}}, 0, 2, 1, 1, 2, "[] false"},
		{[][]float32{{1, 2, 3}}, 0, 1, 1, 1, 0, "[] false"},
		{[][]float32{{1, 2, 3}}, 0, 1, 1, 1, impl.MaxWorkers + 1, "[] false"},
		{[][]float32{{1, 2, 3}}, 0, 1, 1, 0, 1, "[] false"},
		{[][]float32{{1, 2, 3}}, impl.MaxKind, 1, 1, 1, 1, "[] false"},
		{[][]float32{{1, 2, 3}}, -1, 1, 1, 1, 1, "[] false"},
	}
	for _, row := range rows {
		misses, ok := impl.RollsShared(row.lists, row.kind, row.period, row.first, row.ahead, row.workers)
		expect(t, "rolls shared of "+shown(row.lists, row.kind, row.period, row.first, row.ahead), shown(misses, ok), row.want)
	}
}

func TestRollsSharedByManyWorkers(t *testing.T) {
	for _, count := range []int{1, 2, 7, 16} {
		lists := make([][]float32, count)
		want := make([]float32, count)
		for i := range lists {
			lists[i] = []float32{float32(i), 2, 0.1 * float32(i)}
			// There is one origin, so that the mean is the square.
			misses, _ := impl.RollMisses(lists[i], 3, 2, 2, 1)
			want[i] = misses[0] * misses[0]
		}
		for workers := int64(1); workers <= impl.MaxWorkers; workers++ {
			misses, ok := impl.RollsShared(lists, 3, 2, 2, 1, workers)
			expect(t, "rolls shared by "+shown(workers), shown(misses, ok), shown(want, true))
		}
		for _, workers := range append(farInts(), 0, impl.MaxWorkers+1) {
			misses, ok := impl.RollsShared(lists, 3, 2, 2, 1, workers)
			expect(t, "rolls shared by "+shown(workers), shown(misses, ok), noNumbers)
		}
	}
}

func TestWrongRollsShared(t *testing.T) {
	for _, lists := range [][][]float32{nil, {}, repeated([]float32{1, 2}, 17), repeated([]float32{1, 2}, 1000)} {
		misses, ok := impl.RollsShared(lists, 0, 1, 1, 1, 2)
		expect(t, "rolls shared of "+shown(len(lists)), shown(misses, ok), noNumbers)
	}
	for _, wrong := range append(wrongSeries(), []float32{1}, []float32{3e38, -3e38}, []float32{0, 2e19}) {
		for place := range 16 {
			lists := repeated([]float32{1, 2, 3}, 16)
			lists[place] = wrong
			misses, ok := impl.RollsShared(lists, 0, 1, 1, 1, 5)
			expect(t, "rolls shared with "+shown(wrong), shown(misses, ok), noNumbers)
		}
	}
}

func TestRollWorkersAreJoined(t *testing.T) {
	expectJoined(t, func() {
		impl.RollsShared([][]float32{wavy(), steep(), {3e38, 3e38}, nil, tiny()}, 2, 1, 1, 1, impl.MaxWorkers)
	})
}
