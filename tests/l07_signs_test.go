package tests

import (
	"math"
	"slices"
	"testing"

	"loop.example/g01375/impl"
)

// manyCuts are as many as there may be, and one more.
func manyCuts(count int) []float32 { return placesOf(count) }

// wrongCuts are too many, not in ascending order, or not finite.
func wrongCuts() [][]float32 {
	wrong := [][]float32{manyCuts(impl.MaxSigns + 1), repeated(float32(1), impl.MaxSigns+1), make([]float32, 1000), {2, 1}, {1, 2, 1.5}, {-1, -2, 3}, {1, fromBits(0x3f7fffff)}}
	for _, x := range wrongNumbers() {
		wrong = append(wrong, []float32{x}, []float32{1, x}, []float32{x, 1}, []float32{1, x, 2}, append(manyCuts(impl.MaxSigns-1), x))
	}
	return wrong
}

func TestPartMeans(t *testing.T) {
	minusZero := fromBits(negZero)
	type partRow struct {
		a     []float32
		parts int64
		want  string
	}
	rows := []partRow{
		{[]float32{1, 3, 5, 7}, 2, "[40000000 40c00000] true"},
		{[]float32{1, 3, 5, 7}, 1, "[40800000] true"},
		{[]float32{1, 3, 5, 7}, 3, "[3f800000 40400000 40c00000] true"},
		{[]float32{1, 3, 5, 7}, 4, "[3f800000 40400000 40a00000 40e00000] true"},
		{[]float32{1, 3, 5, 7}, 5, "[] false"},
		{[]float32{1, 3, 5, 7}, 0, "[] false"},
		{[]float32{1, 3, 5, 7}, -1, "[] false"},
		// Lengths that parts do not divide.
		{rough(), 5, "[40780000 408b3333 c0040da7 41126666 3e4ccccb] true"},
		{rough(), 7, "[3f000000 3ffccccd 40c028f6 c1066666 4129999a 4019999a c01ccccd] true"},
		{rough(), 8, "[3f000000 3ffccccd 41400000 c0863d70 400ccccd 41126666 40b00000 c01ccccd] true"},
		{rough(), 11, "[3f000000 40e80000 c0533333 41400000 3c23d70a c1066666 400ccccd 41980000 bf333333 40b00000 c01ccccd] true"},
		{wavy()[1:], 2, "[433fbf7d 419a3a07] true"},
		{wavy()[1:], 3, "[3ff9999b 436f9d71 41dc3333] true"},
		{wavy()[1:], 4, "[4031999a 439edd71 40c0bf25 42022222] true"},
		{heights()[:13], 5, "[3fe66666 40de6667 41a8cccd 40aeeeef 4145dddd] true"},
		{wholeNumbers(impl.MaxLong), 7, "[474333c5 47718037 47145b37 47474d3b 4746e95b 47194c92 474fa000] true"},
		{wholeNumbers(impl.MaxLong), 13, "[4733476e 474cd249 47835380 474f72b7 46d475b7 473bb080 4753eb49 47490ca0 472ecdb7 4708e300 473f7fe0 474ad56e 4755f260] true"},
		{wholeNumbers(impl.MaxLong), impl.MaxLong - 1, "[00000000 45f87000 46f7f400 478b6200 46d19200 47bfa780 47a68800 47ac5780 45dc4800 4722e400 47b40e80 47649100 471ee300 47171300 474d2100 47a08680 46d86800 47adee00 47815f80 47678000 47850f80 47b54e00 47025400 47af4680 47720100 47435300 47528300 478fc880 460f6800 476ca400 46d95200 462a3000 46193400 46bfd800 47576900 44c42000 47795a00 4723ce00 470c2000 47325000 478b2f00 46469c00 4788b880 47287600 46fab200 47101a00 4760b900 47b79b00 4734ee00 46621000 47c04d80 47bff680 4659e800 47318800 47b53a00 475a9b00 4708a000 46e90600 471e4400 4782f180 4612f400 47840c00 4722ae00 46f64400 47117400 4765a400 47bbd900 4740fb00 46904400 45527000 45805000 46a19600 474f6a00 44a88000 477f9f00 47313500 4720a900 474dfb00 479c9580 46b72c00 47a14100 4760a900 473cae00 47569100 47972900 46753800 47886580 471b8300 46c83200 46d51a00 472edf00 47988780 46d4f400 47b43300 478b87c0] true"},
		{wholeNumbers(impl.MaxLong), impl.MaxLong, "[00000000 45f87000 46f7f400 478b6200 46d19200 47bfa780 47a68800 47ac5780 45dc4800 4722e400 47b40e80 47649100 471ee300 47171300 474d2100 47a08680 46d86800 47adee00 47815f80 47678000 47850f80 47b54e00 47025400 47af4680 47720100 47435300 47528300 478fc880 460f6800 476ca400 46d95200 462a3000 46193400 46bfd800 47576900 44c42000 47795a00 4723ce00 470c2000 47325000 478b2f00 46469c00 4788b880 47287600 46fab200 47101a00 4760b900 47b79b00 4734ee00 46621000 47c04d80 47bff680 4659e800 47318800 47b53a00 475a9b00 4708a000 46e90600 471e4400 4782f180 4612f400 47840c00 4722ae00 46f64400 47117400 4765a400 47bbd900 4740fb00 46904400 45527000 45805000 46a19600 474f6a00 44a88000 477f9f00 47313500 4720a900 474dfb00 479c9580 46b72c00 47a14100 4760a900 473cae00 47569100 47972900 46753800 47886580 471b8300 46c83200 46d51a00 472edf00 47988780 46d4f400 47b43300 478ec680 47884900] true"},
		{wholeNumbers(impl.MaxLong), impl.MaxLong + 1, "[] false"},
		{wholeNumbers(impl.MaxLong + 1), 7, "[] false"},
		{[]float32{7}, 1, "[40e00000] true"},
		{[]float32{7}, 2, "[] false"},
		{[]float32{7}, 0, "[] false"},
		// Series that never change, and their rounded means.
		{repeated(float32(5), 9), 4, "[40a00000 40a00000 40a00000 40a00000] true"},
		{repeated(float32(0.1), 21), 3, "[3dccccce 3dccccce 3dccccce] true"},
		{repeated(float32(7.3), 9), 3, "[40e9999b 40e9999b 40e9999b] true"},
		// The order of the sum, which begins with +0.
		{[]float32{1e8, 1, -1e8}, 1, "[00000000] true"},
		{[]float32{1e8, -1e8, 1}, 1, "[3eaaaaab] true"},
		{[]float32{minusZero, minusZero}, 1, "[00000000] true"},
		{[]float32{minusZero, minusZero}, 2, "[00000000 00000000] true"},
		{tiny(), 2, "[00400000 002aaaa9] true"},
		{[]float32{fromBits(1), 0, -fromBits(1), 0}, 2, "[00000000 80000000] true"},
		// A sum is not finite, or only just is.
		{[]float32{3e38, 3e38, 1}, 1, "[] false"},
		{[]float32{3e38, 3e38, 1}, 2, "[7f61b1e6 7ee1b1e6] true"},
		{[]float32{1, 3e38, 3e38}, 2, "[] false"},
		{[]float32{3e38, -3e38, 3e38}, 1, "[7e967699] true"},
		{[]float32{3e38, 3e38, -3e38}, 1, "[] false"},
		{[]float32{3e38, 3e38}, 2, "[7f61b1e6 7f61b1e6] true"},
	}
	for _, parts := range farInts() {
		rows = append(rows, partRow{rough(), parts, noNumbers}, partRow{[]float32{1}, parts, noNumbers})
	}
	for _, wrong := range wrongSeries() {
		rows = append(rows, partRow{wrong, 1, noNumbers}, partRow{wrong, 0, noNumbers}, partRow{wrong, int64(len(wrong)), noNumbers})
	}
	for _, row := range rows {
		means, ok := impl.PartMeans(row.a, row.parts)
		expect(t, "means of parts of "+shown(row.a, row.parts), shown(means, ok), row.want)
	}
}

func TestSignsOf(t *testing.T) {
	minusZero := fromBits(negZero)
	type signRow struct {
		a     []float32
		parts int64
		cuts  []float32
		want  string
	}
	rows := []signRow{
		{[]float32{1, 3, 5, 7}, 2, []float32{2, 4}, "[1 2] true"},
		{[]float32{1, 3, 5, 7}, 4, []float32{2, 4}, "[0 1 2 2] true"},
		{rough(), 5, []float32{-4, 0, 1.5, 4}, "[3 4 1 4 2] true"},
		{wavy(), 7, []float32{-1, 0.5, 2, 50}, "[3 3 4 0 3 3 4] true"},
		{heights(), 14, []float32{1, 2, 3, 5, 8, 13, 21, 34}, "[3 0 5 4 1 8 2 0 5 4 1 7 2 0] true"},
		{wholeNumbers(impl.MaxLong), 13, []float32{10000, 20000, 40000, 50000, 60000, 70000}, "[3 4 5 4 2 3 4 4 3 2 3 4 4] true"},
		{wholeNumbers(impl.MaxLong + 1), 13, []float32{10000}, "[] false"},
		{[]float32{7}, 1, []float32{3}, "[1] true"},
		// 0, MaxSigns and MaxSigns + 1 cuts.
		{[]float32{1, 3, 5, 7}, 2, nil, "[0 0] true"},
		{[]float32{-1, 0.5, 7, 14.5, 15, 99}, 6, manyCuts(impl.MaxSigns), "[0 1 8 15 16 16] true"},
		{[]float32{-1, 0.5, 7, 14.5, 15, 99}, 6, manyCuts(impl.MaxSigns + 1), "[] false"},
		// Equal cuts, and cuts that descend.
		{[]float32{1, 3, 5, 7}, 4, []float32{4, 4}, "[0 0 2 2] true"},
		{[]float32{1, 3, 5, 7}, 4, []float32{2, 5, 5, 5, 6}, "[0 1 4 5] true"},
		{[]float32{1, 3, 5, 7}, 4, repeated(float32(3), impl.MaxSigns), "[0 16 16 16] true"},
		{[]float32{1, 3, 5, 7}, 4, []float32{4, 2}, "[] false"},
		{[]float32{1, 3, 5, 7}, 4, []float32{2, 4, 3}, "[] false"},
		// Means as great as a cut, or nearly.
		{[]float32{1, 3, 5, 7}, 2, []float32{2, 6}, "[1 2] true"},
		{[]float32{1, 3, 5, 7}, 2, []float32{2, 2, 6, 6}, "[2 4] true"},
		{[]float32{1, 3, 5, 7}, 2, []float32{fromBits(0x3fffffff), fromBits(0x40c00001)}, "[1 1] true"},
		{[]float32{1, 3, 5, 7}, 2, []float32{fromBits(0x40000001), fromBits(0x40bfffff)}, "[0 2] true"},
		{[]float32{1, 2, 4}, 1, []float32{fromBits(0x40155555)}, "[1] true"},
		{[]float32{1, 2, 4}, 1, []float32{fromBits(0x40155556)}, "[0] true"},
		// Zeros of both signs are equal.
		{[]float32{0, minusZero}, 2, []float32{0}, "[1 1] true"},
		{[]float32{0, minusZero}, 2, []float32{minusZero}, "[1 1] true"},
		{[]float32{0, minusZero}, 2, []float32{0, minusZero}, "[2 2] true"},
		{[]float32{0, minusZero}, 2, []float32{minusZero, 0, minusZero}, "[3 3] true"},
		{[]float32{0, minusZero}, 2, []float32{fromBits(1)}, "[0 0] true"},
		{[]float32{0, minusZero}, 2, []float32{-fromBits(1), fromBits(1)}, "[1 1] true"},
		{[]float32{-3e38, 3e38}, 2, []float32{-3e38, 3e38}, "[1 2] true"},
		// Parts that there are not, and means that are not finite.
		{[]float32{1, 3, 5, 7}, 0, []float32{2, 4}, "[] false"},
		{[]float32{1, 3, 5, 7}, 5, []float32{2, 4}, "[] false"},
		{[]float32{1, 3, 5, 7}, -1, []float32{2, 4}, "[] false"},
		{[]float32{1, 3e38, 3e38}, 2, []float32{2, 4}, "[] false"},
	}
	for _, wrong := range wrongCuts() {
		rows = append(rows, signRow{[]float32{1, 2}, 2, wrong, noNumbers})
	}
	for _, wrong := range wrongSeries() {
		rows = append(rows, signRow{wrong, 1, []float32{2}, noNumbers}, signRow{wrong, 1, nil, noNumbers})
	}
	for _, row := range rows {
		signs, ok := impl.SignsOf(row.a, row.parts, row.cuts)
		expect(t, "signs of "+shown(row.a, row.parts, row.cuts), shown(signs, ok), row.want)
	}
}

type apartRow struct {
	a, b []int64
	cuts []float32
	want string
}

func apartRows() []apartRow {
	return []apartRow{
		{[]int64{0, 1}, []int64{2, 1}, []float32{2, 4}, "40000000 true"},
		{[]int64{2, 1}, []int64{0, 1}, []float32{2, 4}, "40000000 true"},
		{[]int64{0, 3, 1, 2}, []int64{2, 0, 3, 3}, []float32{-1.5, 0.3, 7}, "412f8c6b true"},
		{[]int64{4, 0, 1, 4, 2}, []int64{0, 4, 3, 2, 4}, []float32{-4, 0.1, 1.7, 4.3}, "414676e9 true"},
		// They differ by 0, 1 and 2.
		{[]int64{0}, []int64{0}, []float32{1, 3}, "00000000 true"},
		{[]int64{0}, []int64{1}, []float32{1, 3}, "00000000 true"},
		{[]int64{2}, []int64{1}, []float32{1, 3}, "00000000 true"},
		{[]int64{0}, []int64{2}, []float32{1, 3}, "40000000 true"},
		{[]int64{2}, []int64{0}, []float32{1, 3}, "40000000 true"},
		{[]int64{1}, []int64{3}, []float32{1, 3, 8}, "40a00000 true"},
		{[]int64{3}, []int64{0}, []float32{1, 3, 8}, "40e00000 true"},
		// Signs of -1, 0, how many cuts there are, and one more.
		{[]int64{-1}, []int64{0}, []float32{1, 3}, "00000000 false"},
		{[]int64{0}, []int64{-1}, []float32{1, 3}, "00000000 false"},
		{[]int64{0, 0}, []int64{0, -1}, []float32{1, 3}, "00000000 false"},
		{[]int64{3}, []int64{2}, []float32{1, 3}, "00000000 false"},
		{[]int64{2}, []int64{3}, []float32{1, 3}, "00000000 false"},
		{[]int64{0, 3}, []int64{0, 2}, []float32{1, 3}, "00000000 false"},
		{[]int64{3}, []int64{3}, []float32{1, 3}, "00000000 false"},
		{[]int64{0, impl.MaxSigns}, []int64{impl.MaxSigns, 0}, manyCuts(impl.MaxSigns), "41a9b4a4 true"},
		{[]int64{0, impl.MaxSigns + 1}, []int64{impl.MaxSigns, 0}, manyCuts(impl.MaxSigns), "00000000 false"},
		{[]int64{0, impl.MaxSigns}, []int64{impl.MaxSigns, 0}, manyCuts(impl.MaxSigns + 1), "00000000 false"},
		// No cuts.
		{[]int64{0, 0}, []int64{0, 0}, nil, "00000000 true"},
		{[]int64{0, 1}, []int64{0, 0}, nil, "00000000 false"},
		{[]int64{0, 0}, []int64{0, 1}, nil, "00000000 false"},
		// Equal cuts, cuts that descend, and zeros of both signs.
		{[]int64{0}, []int64{2}, []float32{3, 3}, "00000000 true"},
		{[]int64{0}, []int64{3}, []float32{3, 3, 3.5}, "3f000000 true"},
		{[]int64{0}, []int64{2}, []float32{3, 1}, "00000000 false"},
		{[]int64{0}, []int64{0}, []float32{3, 1}, "00000000 false"},
		{[]int64{0}, []int64{2}, []float32{fromBits(negZero), 0}, "00000000 true"},
		{[]int64{0}, []int64{2}, []float32{0, fromBits(negZero)}, "00000000 true"},
		// Different lengths, and none.
		{[]int64{0, 1}, []int64{2}, []float32{2, 4}, "00000000 false"},
		{[]int64{0}, []int64{2, 1}, []float32{2, 4}, "00000000 false"},
		{[]int64{0}, nil, []float32{2, 4}, "00000000 false"},
		{nil, []int64{0}, []float32{2, 4}, "00000000 false"},
		{nil, nil, []float32{2, 4}, "00000000 false"},
		{nil, nil, nil, "00000000 false"},
		// The order of the sum, and roots that are 0.
		{[]int64{0, 0, 0, 0, 0, 0, 0, 0, 0, 0, 0, 0, 0, 0, 0, 0, 0}, []int64{3, 2, 2, 2, 2, 2, 2, 2, 2, 2, 2, 2, 2, 2, 2, 2, 2}, []float32{0, 1, 4096}, "45800000 true"},
		{[]int64{0, 0, 0, 0, 0, 0, 0, 0, 0, 0, 0, 0, 0, 0, 0, 0, 0}, []int64{2, 2, 2, 2, 2, 2, 2, 2, 2, 2, 2, 2, 2, 2, 2, 2, 3}, []float32{0, 1, 4096}, "45800004 true"},
		{[]int64{0}, []int64{2}, []float32{0, 1e-23}, "00000000 true"},
		{[]int64{0}, []int64{2}, []float32{0, 1e-22}, "1aef7751 true"},
		// A cut less another one, its square, or the sum is too great, or only just is not.
		{[]int64{0}, []int64{2}, []float32{-3e38, 3e38}, "00000000 false"},
		{[]int64{0}, []int64{1}, []float32{-3e38, 3e38}, "00000000 true"},
		{[]int64{0}, []int64{2}, []float32{0, 2e19}, "00000000 false"},
		{[]int64{0}, []int64{2}, []float32{0, 1.8e19}, "5f79ccd9 true"},
		{[]int64{0, 2}, []int64{2, 0}, []float32{0, 1.8e19}, "00000000 false"},
		{[]int64{0, 2}, []int64{2, 1}, []float32{0, 1.8e19}, "5f79ccd9 true"},
	}
}

func TestSignFar(t *testing.T) {
	rows := apartRows()
	long, longer := repeated(int64(0), impl.MaxLong), repeated(int64(0), impl.MaxLong+1)
	far := repeated(int64(2), impl.MaxLong)
	rows = append(rows,
		apartRow{long, far, []float32{1, 1.5}, shown(float32(math.Sqrt(24)), true)},
		apartRow{longer, longer, []float32{1, 1.5}, noNumber},
		apartRow{longer, longer, nil, noNumber},
		apartRow{long, longer, nil, noNumber},
		apartRow{longer, long, nil, noNumber})
	for _, wrong := range wrongCuts() {
		rows = append(rows, apartRow{[]int64{0}, []int64{0}, wrong, noNumber}, apartRow{[]int64{0}, []int64{2}, wrong, noNumber})
	}
	for _, sign := range farInts() {
		rows = append(rows, apartRow{[]int64{0, 1}, []int64{0, sign}, []float32{1, 2}, noNumber}, apartRow{[]int64{sign, 1}, []int64{sign, 1}, []float32{1, 2}, noNumber})
	}
	for place := range impl.MaxLong {
		wrong := slices.Clone(far)
		wrong[place] = 3
		rows = append(rows, apartRow{long, wrong, []float32{1, 1.5}, noNumber}, apartRow{wrong, long, []float32{1, 1.5}, noNumber})
	}
	for _, row := range rows {
		far, ok := impl.SignFar(row.a, row.b, row.cuts)
		expect(t, "how far are signs "+shown(row.a, row.b, row.cuts), shown(far, ok), row.want)
	}
}
