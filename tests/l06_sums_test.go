package tests

import (
	"math"
	"testing"

	"loop.example/g01375/impl"
)

// twoLevels has leaves at 1, 2 and 4, so that a leaf comes before a parent.
func twoLevels() []int64 { return []int64{-1, 0, 0, 0, 3} }

// crossed has leaves at 4, 5, 6 and 7, whose parents are not in their order.
func crossed() []int64 { return []int64{-1, 0, 0, 1, 2, 3, 1, 2} }

// chained returns parents each of which has one child, but for the last one.
func chained(count int) []int64 {
	parents := make([]int64, count)
	for i := range parents {
		parents[i] = int64(i - 1)
	}
	return parents
}

// fanned returns parents of which the first one has all others.
func fanned(count int) []int64 { return append([]int64{-1}, make([]int64, count-1)...) }

func wrongParents() [][]int64 {
	wrong := [][]int64{nil, {}, {0}, {1}, {-2}, {math.MinInt64}, {math.MaxInt64}, fanned(impl.MaxParts + 1), chained(impl.MaxParts + 1), fanned(1000),
		{0, 0}, {-1, -1}, {-1, 1}, {-1, 2}, {-1, -2}, {-1, 0, 2}, {-1, 0, 3}, {-1, 0, -1}, {-1, 2, 0}, {0, 0, 0}, {1, 0}}
	for _, far := range farInts() {
		for place := 1; place < 4; place++ {
			parents := []int64{-1, 0, 0, 1}
			parents[place] = far
			wrong = append(wrong, parents)
		}
	}
	for place := 1; place < impl.MaxParts; place++ {
		parents := fanned(impl.MaxParts)
		parents[place] = int64(place)
		wrong = append(wrong, parents)
	}
	return wrong
}

type treeRow struct {
	parents []int64
	values  []float32
	want    string
}

func treeRows() []treeRow {
	minusZero := fromBits(negZero)
	return []treeRow{
		{[]int64{-1, 0, 0}, []float32{1, 2}, "[40400000 3f800000 40000000] true"},
		{[]int64{-1, 0, 1, 0}, []float32{5, 7}, "[41400000 40a00000 40a00000 40e00000] true"},
		{twoLevels(), []float32{0.1, 0.2, 0.7}, "[3f800000 3dcccccd 3e4ccccd 3f333333 3f333333] true"},
		{crossed(), []float32{0.1, 0.2, 0.7, 1.3}, "[40133333 3f666666 3fb33333 3e4ccccd 3dcccccd 3e4ccccd 3f333333 3fa66666] true"},
		{crossed(), []float32{1, 20, 300, 4000}, "[45870800 43a00000 457a1000 41a00000 3f800000 41a00000 43960000 457a0000] true"},
		{[]int64{-1, 0, 1, 0, 1, 3, 3, 2}, []float32{0.1, 0.3, 1e8, -7}, "[4cbebc1f c0dccccd c0e00000 4cbebc20 3dcccccd 3e99999a 4cbebc20 c0e00000] true"},
		{[]int64{-1, 0, 0, 1, 1, 1, 2, 2, 2}, rough()[:6], "[4100f5c3 408e6666 40670a40 3f000000 40e80000 c0533333 41400000 3c23d70a c1066666] true"},
		{[]int64{-1, 0, 0, 1, 1, 1, 2, 2, 2}, wavy()[:6], "[447075c3 410a6666 446e4c29 40466666 c02ccccd 41040000 3e99999a 447a0000 c23c70a4] true"},
		{[]int64{-1, 0, 0, 2, 2}, tiny()[:3], "[007ffffd 00000001 007ffffc 007fffff 80000003] true"},
		{[]int64{-1, 0, 0, 2, 2}, steep()[:3], "[5fde0b6c 5f0ac723 5f98a7da de268890 5fad78ec] true"},
		{[]int64{-1}, []float32{7}, "[40e00000] true"},
		{chained(5), []float32{0.3}, "[3e99999a 3e99999a 3e99999a 3e99999a 3e99999a] true"},
		// The order of a sum.
		{fanned(4), []float32{1e8, 1, -1e8}, "[00000000 4cbebc20 3f800000 ccbebc20] true"},
		{fanned(4), []float32{1e8, -1e8, 1}, "[3f800000 4cbebc20 ccbebc20 3f800000] true"},
		{[]int64{-1, 0, 0, 0, 3, 3}, []float32{1e8, 1, -3e8, 2e8}, "[00000000 4cbebc20 3f800000 ccbebc20 cd8f0d18 4d3ebc20] true"},
		{[]int64{-1, 0, 0, 0, 1, 1}, []float32{-1e8, 1, 0.5e8, 0.5e8}, "[3f800000 4cbebc20 ccbebc20 3f800000 4c3ebc20 4c3ebc20] true"},
		// MaxParts and MaxParts + 1 parents.
		{fanned(impl.MaxParts), rough()[:11], "[420ca3d7 3f000000 40e80000 c0533333 41400000 3c23d70a c1066666 400ccccd 41980000 bf333333 40b00000 3f8ccccd] true"},
		{chained(impl.MaxParts), []float32{0.1}, "[3dcccccd 3dcccccd 3dcccccd 3dcccccd 3dcccccd 3dcccccd 3dcccccd 3dcccccd 3dcccccd 3dcccccd 3dcccccd 3dcccccd] true"},
		{[]int64{-1, 0, 0, 1, 1, 2, 2, 3, 3, 4, 5, 6}, []float32{0.1, 0.2, 0.3, 0.4, 0.7}, "[3fd9999a 3f19999a 3f8ccccd 3e99999a 3e99999a 3ecccccd 3f333333 3dcccccd 3e4ccccd 3e99999a 3ecccccd 3f333333] true"},
		{fanned(impl.MaxParts + 1), rough(), "[] false"},
		{chained(impl.MaxParts + 1), []float32{0.1}, "[] false"},
		// Another number of leaves.
		{[]int64{-1, 0, 0}, []float32{1}, "[] false"},
		{[]int64{-1, 0, 0}, []float32{1, 2, 3}, "[] false"},
		{[]int64{-1, 0, 0}, nil, "[] false"},
		{[]int64{-1}, nil, "[] false"},
		{[]int64{-1}, []float32{1, 2}, "[] false"},
		{nil, nil, "[] false"},
		{nil, []float32{1}, "[] false"},
		{crossed(), []float32{1, 2, 3}, "[] false"},
		{crossed(), []float32{1, 2, 3, 4, 5}, "[] false"},
		{crossed(), wholeNumbers(8), "[] false"},
		// The first one is not -1, or one is not before its child.
		{[]int64{0, 0, 0}, []float32{1, 2}, "[] false"},
		{[]int64{-1, 1}, []float32{1}, "[] false"},
		{[]int64{-1, 0, 2}, []float32{1, 2}, "[] false"},
		{[]int64{-1, -1}, []float32{1, 2}, "[] false"},
		// Zeros of both signs.
		{[]int64{-1}, []float32{minusZero}, "[80000000] true"},
		{[]int64{-1, 0}, []float32{minusZero}, "[00000000 80000000] true"},
		{[]int64{-1, 0, 0}, []float32{minusZero, minusZero}, "[00000000 80000000 80000000] true"},
		{[]int64{-1, 0, 0}, []float32{minusZero, 0}, "[00000000 80000000 00000000] true"},
		// A sum is not finite, or only just is.
		{[]int64{-1, 0, 0}, []float32{3e38, 3e38}, "[] false"},
		{[]int64{-1, 0, 0}, []float32{3e38, 3e37}, "[7f7843b0 7f61b1e6 7db48e52] true"},
		{[]int64{-1, 0, 0, 1, 1}, []float32{-3e38, 3e38, 3e38}, "[] false"},
		{[]int64{-1, 0, 0, 0}, []float32{3e38, 3e38, -3e38}, "[] false"},
		{[]int64{-1, 0, 0, 0}, []float32{3e38, -3e38, 3e38}, "[7f61b1e6 7f61b1e6 ff61b1e6 7f61b1e6] true"},
	}
}

func TestTreeSums(t *testing.T) {
	rows := treeRows()
	for _, wrong := range wrongParents() {
		for count := range 13 {
			rows = append(rows, treeRow{wrong, wholeNumbers(count), noNumbers})
		}
	}
	for _, x := range wrongNumbers() {
		rows = append(rows, treeRow{[]int64{-1}, []float32{x}, noNumbers}, treeRow{[]int64{-1, 0, 0}, []float32{x, 1}, noNumbers}, treeRow{[]int64{-1, 0, 0}, []float32{1, x}, noNumbers})
	}
	for _, row := range rows {
		values, ok := impl.TreeSums(row.parents, row.values)
		expect(t, "tree sums of "+shown(row.parents, row.values), shown(values, ok), row.want)
	}
}

type nearRow struct {
	parents []int64
	values  []float32
	near    float32
	want    string
}

func nearRows() []nearRow {
	minusZero := fromBits(negZero)
	return []nearRow{
		{[]int64{-1, 0, 0}, []float32{3, 1, 2}, 0, "true true"},
		{[]int64{-1, 0, 0}, []float32{4, 1, 2}, 0.5, "false true"},
		{[]int64{-1, 0, 0}, []float32{4, 1, 2}, 1, "true true"},
		{[]int64{-1, 0, 0}, []float32{2, 1, 2}, 1, "true true"},
		{[]int64{-1, 0, 0}, []float32{2, 1, 2}, fromBits(0x3f7fffff), "false true"},
		{[]int64{-1, 0, 0}, []float32{0.3, 0.1, 0.2}, 0, "true true"},
		{[]int64{-1, 0, 0}, []float32{0.7, 0.1, 0.6}, 0, "false true"},
		{[]int64{-1, 0, 0}, []float32{0.7, 0.1, 0.6}, 1e-7, "true true"},
		// Each one that is no leaf, by the values of those whose parent it is.
		{[]int64{-1, 0, 1, 1}, []float32{3, 3, 1, 2}, 0, "true true"},
		{[]int64{-1, 0, 1, 1}, []float32{4, 3, 1, 2}, 0, "false true"},
		{[]int64{-1, 0, 1, 1}, []float32{4, 4, 1, 2}, 0, "false true"},
		{[]int64{-1, 0, 1, 1}, []float32{4, 4, 1, 2}, 1, "true true"},
		{[]int64{-1, 0, 1, 1}, []float32{5, 4, 1, 2}, 1, "true true"},
		{[]int64{-1, 0, 1, 1}, []float32{3, 4, 1, 2}, 0.5, "false true"},
		{chained(5), []float32{5, 4, 3, 2, 1}, 1, "true true"},
		{chained(5), []float32{5, 4, 3, 2, 1}, 0.9, "false true"},
		{chained(impl.MaxParts), repeated(float32(0.1), impl.MaxParts), 0, "true true"},
		{fanned(impl.MaxParts), append([]float32{66}, 1, 2, 3, 4, 5, 6, 7, 8, 9, 10, 11), 0, "true true"},
		{fanned(impl.MaxParts), append([]float32{66}, 1, 2, 3, 4, 5, 6, 7, 8, 9, 10, 12), 0, "false true"},
		{fanned(impl.MaxParts + 1), append([]float32{66}, 1, 2, 3, 4, 5, 6, 7, 8, 9, 10, 11, 0), 0, "false false"},
		// The order of a sum.
		{fanned(4), []float32{0, 1e8, 1, -1e8}, 0, "true true"},
		{fanned(4), []float32{1, 1e8, 1, -1e8}, 0, "false true"},
		{fanned(4), []float32{1, 1e8, -1e8, 1}, 0, "true true"},
		// One alone is a leaf.
		{[]int64{-1}, []float32{7}, 0, "true true"},
		{[]int64{-1}, []float32{7}, -1, "false false"},
		// A near of 0, and one that is less.
		{[]int64{-1, 0, 0}, []float32{3, 1, 2}, minusZero, "true true"},
		{[]int64{-1, 0, 0}, []float32{4, 1, 2}, minusZero, "false true"},
		{[]int64{-1, 0, 0}, []float32{3, 1, 2}, -fromBits(1), "false false"},
		{[]int64{-1, 0, 0}, []float32{3, 1, 2}, -1, "false false"},
		{[]int64{-1, 0, 0}, []float32{fromBits(1), 0, 0}, 0, "false true"},
		{[]int64{-1, 0, 0}, []float32{fromBits(1), 0, 0}, fromBits(1), "true true"},
		{[]int64{-1, 0}, []float32{minusZero, 0}, 0, "true true"},
		{[]int64{-1, 0}, []float32{0, minusZero}, 0, "true true"},
		// A sum, or a difference, is not finite.
		{[]int64{-1, 0, 0}, []float32{3e38, 3e38, 3e38}, 3e38, "false true"},
		{[]int64{-1, 0, 0}, []float32{-3e38, 3e38, 0}, 3.4e38, "false true"},
		{[]int64{-1, 0, 0, 0}, []float32{3e38, 3e38, 3e38, -3e38}, 3.4e38, "false true"},
		{[]int64{-1, 0, 0}, []float32{1.5e38, 3e38, 0}, 1.5e38, "true true"},
		// Another number of values.
		{[]int64{-1, 0, 0}, []float32{1, 2}, 5, "false false"},
		{[]int64{-1, 0, 0}, []float32{3, 1, 2, 0}, 5, "false false"},
		{[]int64{-1, 0, 0}, nil, 5, "false false"},
		{[]int64{-1}, nil, 5, "false false"},
		{nil, nil, 5, "false false"},
	}
}

func TestIsTreeSum(t *testing.T) {
	rows := nearRows()
	for _, wrong := range wrongParents() {
		rows = append(rows, nearRow{wrong, make([]float32, len(wrong)), 0, "false false"}, nearRow{wrong, make([]float32, len(wrong)), 5, "false false"})
	}
	for _, x := range wrongNumbers() {
		rows = append(rows, nearRow{[]int64{-1}, []float32{x}, 5, "false false"}, nearRow{[]int64{-1, 0, 0}, []float32{3, 1, 2}, x, "false false"})
		for place := range 3 {
			values := []float32{3, 1, 2}
			values[place] = x
			rows = append(rows, nearRow{[]int64{-1, 0, 0}, values, 5, "false false"})
		}
	}
	for _, row := range rows {
		good, ok := impl.IsTreeSum(row.parents, row.values, row.near)
		expect(t, "a tree sum: "+shown(row.parents, row.values, row.near), shown(good, ok), row.want)
	}
}

// wrongValues are rows with parents or values at which a function fails.
func wrongValues() []treeRow {
	var rows []treeRow
	for _, wrong := range wrongParents() {
		rows = append(rows, treeRow{wrong, repeated(float32(1), len(wrong)), noNumbers})
	}
	for _, x := range wrongNumbers() {
		rows = append(rows, treeRow{[]int64{-1}, []float32{x}, noNumbers})
		for place := range 5 {
			values := []float32{9, 4, 5, 1, 3}
			values[place] = x
			rows = append(rows, treeRow{[]int64{-1, 0, 0, 1, 1}, values, noNumbers})
		}
	}
	for _, parents := range [][]int64{{-1}, {-1, 0, 0}, crossed(), fanned(impl.MaxParts)} {
		for _, count := range []int{0, len(parents) - 1, len(parents) + 1} {
			rows = append(rows, treeRow{parents, repeated(float32(1), count), noNumbers})
		}
	}
	return rows
}

func TestSumUp(t *testing.T) {
	minusZero := fromBits(negZero)
	rows := []treeRow{
		{[]int64{-1, 0, 0}, []float32{9, 1, 2}, "[40400000 3f800000 40000000] true"},
		{[]int64{-1, 0, 0, 1, 1}, []float32{9, 8, 7, 2, 3}, "[41400000 40a00000 40e00000 40000000 40400000] true"},
		{twoLevels(), []float32{9, 0.1, 0.2, 8, 0.7}, "[3f800000 3dcccccd 3e4ccccd 3f333333 3f333333] true"},
		{crossed(), rough()[:8], "[414cf5c3 c0c66666 4198147b c1066666 3c23d70a c1066666 400ccccd 41980000] true"},
		{crossed(), wavy()[:8], "[446f9d71 c22670a4 447a047b c23c70a4 447a0000 c23c70a4 40b00000 3d8f5c29] true"},
		{[]int64{-1}, []float32{7}, "[40e00000] true"},
		{chained(impl.MaxParts), rough(), "[c0c00000 c0c00000 c0c00000 c0c00000 c0c00000 c0c00000 c0c00000 c0c00000 c0c00000 c0c00000 c0c00000 c0c00000] true"},
		{fanned(impl.MaxParts), rough(), "[41e547ac 40e80000 c0533333 41400000 3c23d70a c1066666 400ccccd 41980000 bf333333 40b00000 3f8ccccd c0c00000] true"},
		{fanned(impl.MaxParts), wavy(), "[44864d1f c02ccccd 41040000 3e99999a 447a0000 c23c70a4 40b00000 3d8f5c29 41480000 c0533333 42c7cccd 3f800000] true"},
		{fanned(impl.MaxParts + 1), wholeNumbers(13), "[] false"},
		{fanned(4), []float32{7, 1e8, 1, -1e8}, "[00000000 4cbebc20 3f800000 ccbebc20] true"},
		{[]int64{-1, 0}, []float32{minusZero, minusZero}, "[00000000 80000000] true"},
		{[]int64{-1, 0}, []float32{3e38, 1}, "[3f800000 3f800000] true"},
		{[]int64{-1, 0, 0}, []float32{1, 3e38, 3e38}, "[] false"},
		{[]int64{-1, 0, 0, 0}, []float32{1, 3e38, -3e38, 3e38}, "[7f61b1e6 7f61b1e6 ff61b1e6 7f61b1e6] true"},
		{[]int64{-1, 0, 0, 1, 1}, []float32{1, 3e38, -3e38, 3e38, 3e38}, "[] false"},
	}
	for _, row := range append(rows, wrongValues()...) {
		values, ok := impl.SumUp(row.parents, row.values)
		expect(t, "sums of "+shown(row.parents, row.values), shown(values, ok), row.want)
	}
}

func TestSplitDown(t *testing.T) {
	minusZero := fromBits(negZero)
	rows := []treeRow{
		{[]int64{-1, 0, 0}, []float32{8, 1, 3}, "[41000000 40000000 40c00000] true"},
		{[]int64{-1, 0, 0, 1, 1}, []float32{8, 1, 3, 5, 5}, "[41000000 40000000 40c00000 3f800000 3f800000] true"},
		{twoLevels(), []float32{9, 0.1, 0.2, 8, 0.7}, "[41100000 3dde1281 3e5e1281 410acb91 410acb91] true"},
		{crossed(), rough()[:8], "[3f000000 3f6aefcc bed5df98 3f4689be b9666969 3f4689be 3e119836 bed5c2ca] true"},
		{crossed(), wavy()[:8], "[40466666 bfc109af 4093759f bd9fc165 409372fb bd9fc165 bfb70d98 39a91b41] true"},
		{[]int64{-1, 0, 0, 1, 1, 2}, []float32{0.1, 0.3, 0.7, 0.9, 1.1, 1.3}, "[3dcccccd 3cf5c290 3d8f5c29 3c5d2f1b 3c872b03 3d8f5c29] true"},
		{[]int64{-1, 0, 0, 2, 2}, tiny(), "[00000001 00000001 80000000 80000000 00000000] true"},
		{[]int64{-1, 0, 0, 2, 2}, steep()[:5], "[5f0ac723 dd9764e0 5f1db3bf dd3debbd 5f29927a] true"},
		{[]int64{-1}, []float32{7}, "[40e00000] true"},
		{[]int64{-1}, []float32{minusZero}, "[80000000] true"},
		{chained(impl.MaxParts), rough(), "[3f000000 3f000000 3f000000 3f000000 3f000000 3f000000 3f000000 3f000000 3f000000 3f000000 3f000000 3f000000] true"},
		{fanned(impl.MaxParts), rough(), "[3f000000 3e0184bd bd6bd021 3e56601f 3936ef09 be161015 3d1d356c 3ea9b6c3 bc481572 3dc482c7 3c9d356c bdd6601f] true"},
		{fanned(impl.MaxParts), wavy(), "[40466666 bbff45f4 3cc3001b 3a62e8da 4038a8d3 be0b305d 3c820012 3953c843 3d13ba43 bc1c0015 3e939472 3b3d1760] true"},
		{fanned(impl.MaxParts + 1), wholeNumbers(13), "[] false"},
		// The order of a sum.
		{fanned(4), []float32{7, 1e8, 1, -1e8}, "[] false"},
		{fanned(4), []float32{7, 1e8, -1e8, 1}, "[40e00000 4e26e49c ce26e49c 40e00000] true"},
		// A sum of values that is 0, of the first ones or of others.
		{[]int64{-1, 0}, []float32{1, 0}, "[] false"},
		{[]int64{-1, 0}, []float32{1, minusZero}, "[] false"},
		{[]int64{-1, 0, 0}, []float32{1, 2, -2}, "[] false"},
		{[]int64{-1, 0, 0, 1, 1}, []float32{8, 1, 3, 0, 0}, "[] false"},
		{[]int64{-1, 0, 0, 1, 1}, []float32{8, 0, 3, 5, -5}, "[] false"},
		{[]int64{-1, 0, 0, 1, 2}, []float32{8, 1, 3, 0, 5}, "[] false"},
		// Values of 0, of which some are told as -0.
		{[]int64{-1, 0, 0}, []float32{8, 0, 3}, "[41000000 00000000 41000000] true"},
		{[]int64{-1, 0, 0}, []float32{0, 1, 3}, "[00000000 00000000 00000000] true"},
		{[]int64{-1, 0, 0}, []float32{minusZero, 1, 3}, "[80000000 80000000 80000000] true"},
		{[]int64{-1, 0, 0, 1}, []float32{-8, 0, 3, 2}, "[c1000000 80000000 c1000000 80000000] true"},
		{[]int64{-1, 0, 0}, []float32{8, -1, 3}, "[41000000 c0800000 41400000] true"},
		{[]int64{-1, 0, 0}, []float32{8, fromBits(1), 3e38}, "[41000000 00000000 41000000] true"},
		// A quotient, a product, or only a sum is not finite, or only just is.
		{[]int64{-1, 0, 0}, []float32{3e38, 3, -2}, "[] false"},
		{[]int64{-1, 0, 0}, []float32{1e38, 3, -2}, "[7e967699 7f61b1e6 ff167699] true"},
		{[]int64{-1, 0, 0}, []float32{1e38, 4, -3}, "[] false"},
		{[]int64{-1, 0, 0}, []float32{1, 3e38, 3e38}, "[3f800000 00000000 00000000] true"},
		{[]int64{-1, 0, 0, 0}, []float32{1, 3e38, 3e38, -3e38}, "[3f800000 00000000 00000000 80000000] true"},
		{[]int64{-1, 0, 0, 0}, []float32{1, 3e38, -3e38, fromBits(1)}, "[] false"},
		{[]int64{-1, 0, 0, 0}, []float32{0, 3e38, -3e38, fromBits(1)}, "[] false"},
	}
	for _, row := range append(rows, wrongValues()...) {
		values, ok := impl.SplitDown(row.parents, row.values)
		expect(t, "split down of "+shown(row.parents, row.values), shown(values, ok), row.want)
	}
}

func TestMeetMiddle(t *testing.T) {
	minusZero := fromBits(negZero)
	const noMiddle = "00000000 [] false"
	type middleRow struct {
		total float32
		parts []float32
		want  string
	}
	rows := []middleRow{
		{10, []float32{3, 4}, "41100000 [40800000 40a00000] true"},
		{-5, []float32{3, 4, 0.1}, "bffccccc [bccccd00 3f799998 c03b3334] true"},
		{0.7, []float32{0.1, 0.2, 0.3}, "3f2ccccd [3dffffff 3e666666 3ea66666] true"},
		{100, rough(), "42bd19fe [40be6019 414b300c 40098cff 418b9806 40aeb205 c03cd966 40f4c680 41c39806 4097f9b3 412f300c 40d1934c bf0cff38] true"},
		{0.3, wavy(), "42a6531a [c29f864d c2ab1fe6 c2953980 c2a51fe6 446548d0 c301f8e9 c29ab980 c2a595a9 c28cb980 c2ac531a 41884d34 c2a3b980] true"},
		{1e-38, tiny(), "0085689b [801884ac 00677b52 801884b0 00677b54 801884af] true"},
		{1e19, steep(), "5f23f4c7 [5ee332ff de859f8f 5fa0e21a dd776bd5 df23f4c7 ddc96d1d] true"},
		{7.8, []float32{-1.8, -4.6}, "40444446 [403bbbbb 3e088880] true"},
		// The order of the sum.
		{0, []float32{1e8, 1, -1e8}, "00000000 [4cbebc20 3f800000 ccbebc20] true"},
		{0, []float32{1e8, -1e8, 1}, "3e800000 [4cbebc20 ccbebc20 3f400000] true"},
		// 0, 1, MaxParts and MaxParts + 1 parts.
		{7, nil, "00000000 [] false"},
		{7, []float32{}, "00000000 [] false"},
		{7, []float32{4}, "40b00000 [40b00000] true"},
		{7, repeated(float32(0.1), impl.MaxParts), "40d1b91c [3f0bd0bd 3f0bd0bd 3f0bd0bd 3f0bd0bd 3f0bd0bd 3f0bd0bd 3f0bd0bd 3f0bd0bd 3f0bd0bd 3f0bd0bd 3f0bd0bd 3f0bd0bd] true"},
		{7, repeated(float32(0.1), impl.MaxParts+1), "00000000 [] false"},
		{7, repeated(float32(0.1), impl.MaxLong), "00000000 [] false"},
		// What fits together stays, but for zeros.
		{7, []float32{3, 4}, "40e00000 [40400000 40800000] true"},
		{0, []float32{0, 0}, "00000000 [00000000 00000000] true"},
		{minusZero, []float32{minusZero, minusZero}, "00000000 [80000000 80000000] true"},
		{minusZero, []float32{0}, "00000000 [00000000] true"},
		{0, []float32{minusZero}, "00000000 [00000000] true"},
		// A sum, a difference, the total, or a part is not finite, or only just is.
		{1, []float32{3e38, 3e38}, "00000000 [] false"},
		{1, []float32{3e38, 3e38, -3e38}, "00000000 [] false"},
		{1, []float32{3e38, -3e38, 3e38}, "00000000 [] false"},
		{3e38, []float32{-3e38}, "00000000 [] false"},
		{-3e38, []float32{3e38}, "00000000 [] false"},
		{3e38, []float32{-3e37}, "7ecb201c [7ecb201c] true"},
		{-3.4e38, []float32{-3.4e38, 3.4e38, -1}, "00000000 [] false"},
		{3.4e38, []float32{3.4e38, -3.4e38}, "00000000 [] false"},
		{3.4e38, []float32{3.4e38, -2e38, -1e38}, "00000000 [] false"},
		{3.4e38, []float32{3.4e38, -3e37}, "00000000 [] false"},
		{3.4e38, []float32{-2e38, 3.4e38, -1.4e38}, "00000000 [] false"},
		{3.4e38, []float32{3.4e38, 1e38, -1.01e38}, "00000000 [] false"},
		{-1e38, []float32{3.4e38, -3.4e38, -3.4e38, 3.4e38}, "00000000 [] false"},
	}
	for _, x := range wrongNumbers() {
		rows = append(rows, middleRow{x, []float32{1}, noMiddle}, middleRow{1, []float32{x}, noMiddle}, middleRow{1, []float32{1, x, 3}, noMiddle})
	}
	for _, wrong := range wrongSeries() {
		rows = append(rows, middleRow{1, wrong, noMiddle})
	}
	for _, row := range rows {
		total, parts, ok := impl.MeetMiddle(row.total, row.parts)
		expect(t, "the middle of "+shown(row.total, row.parts), shown(total, parts, ok), row.want)
	}
}
