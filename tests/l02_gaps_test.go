package tests

import (
	"math"
	"testing"

	"loop.example/g01375/impl"
)

// marks tells by each `k` of a text that a number is known.
func marks(text string) []bool {
	known := make([]bool, len(text))
	for i := range known {
		known[i] = text[i] == 'k'
	}
	return known
}

func TestFillGaps(t *testing.T) {
	inf, nan, minusZero := fromBits(infBits), fromBits(nanBits), fromBits(negZero)
	rows := []struct {
		list  []float32
		known string
		want  string
	}{
		{[]float32{0, 1, 0, 3, 0}, "-k-k-", sure(1, 1, 2, 3, 3)}, {[]float32{1, 2, 4}, "kkk", sure(1, 2, 4)},
		{[]float32{9, 9, 4}, "--k", sure(4, 4, 4)}, {[]float32{4, 9, 9}, "k--", sure(4, 4, 4)}, {[]float32{9, 4, 9}, "-k-", sure(4, 4, 4)},
		{[]float32{7}, "k", sure(7)}, {[]float32{1, 0, 0, 0, 5, 0, 3}, "k---k-k", sure(1, 2, 3, 4, 5, 4, 3)},
		{wavy(), "-k---kk--k--", "[c02ccccd c02ccccd c15cd70a c1c73d71 c21007ae c23c70a4 40b00000 40244444 bebbbbc0 c0533333 c0533333 c0533333] true"},
		{[]float32{0, 0.1, 0, 0, 0, 0, 0, 7.7, 0}, "-k-----k-", "[3dcccccd 3dcccccd 3faeeeef 40288888 40799999 40a55555 40cddddd 40f66666 40f66666] true"},
		{[]float32{fromBits(1), 0, 0, fromBits(6)}, "k--k", "[00000001 00000003 00000004 00000006] true"},
		{[]float32{nan, 1, inf, 3, -inf}, "-k-k-", sure(1, 1, 2, 3, 3)}, {[]float32{nan, nan, 4}, "--k", sure(4, 4, 4)},
		{[]float32{minusZero, 5, minusZero}, "k-k", sure(minusZero, 0, minusZero)}, {[]float32{5, minusZero, 5}, "-k-", sure(minusZero, minusZero, minusZero)},
		{[]float32{nan, 1}, "kk", noNumbers}, {[]float32{1, inf}, "-k", noNumbers}, {[]float32{-inf, 1}, "k-", noNumbers},
		{[]float32{-3e38, 3e38}, "kk", sure(-3e38, 3e38)}, {[]float32{-3e38, 1, 3e38}, "k-k", noNumbers},
		{[]float32{-3e38, 1, 0, 1, 3e38}, "k-k-k", sure(-3e38, -1.5e38, 0, 1.5e38, 3e38)},
		{[]float32{1}, "-", noNumbers}, {[]float32{1, 2, 3}, "---", noNumbers},
		{[]float32{1, 2, 3}, "kk", noNumbers}, {[]float32{1, 2, 3}, "kkkk", noNumbers}, {[]float32{1}, "", noNumbers},
		{nil, "", noNumbers}, {nil, "k", noNumbers},
	}
	for _, row := range rows {
		filled, ok := impl.FillGaps(row.list, marks(row.known))
		expect(t, "gaps filled "+shown(row.list, row.known), shown(filled, ok), row.want)
	}
}

func TestLongGaps(t *testing.T) {
	known := make([]bool, impl.MaxLong)
	list := make([]float32, impl.MaxLong)
	list[impl.MaxLong-1] = impl.MaxLong - 1
	known[impl.MaxLong-1] = true
	filled, ok := impl.FillGaps(list, known)
	expect(t, "a gap before the last one", shown(filled, ok), shown(repeated(float32(impl.MaxLong-1), impl.MaxLong), true))
	known[0] = true
	filled, ok = impl.FillGaps(list, known)
	want := make([]float32, impl.MaxLong)
	for i := range want {
		part := float32(i) / float32(impl.MaxLong-1)
		want[i] = float32(impl.MaxLong-1) * part
	}
	expect(t, "the longest gap", shown(filled, ok), shown(want, true))
	filled, ok = impl.FillGaps(repeated(float32(1), impl.MaxLong+1), repeated(true, impl.MaxLong+1))
	expect(t, "gaps of a list that is too long", shown(filled, ok), noNumbers)
}

func TestFarAndTameOnes(t *testing.T) {
	minusZero := fromBits(negZero)
	rows := []struct {
		list []float32
		by   float32
		far  []int64
		tame string
	}{
		{[]float32{1, 2, 3, 4, 50}, 3, []int64{4}, sure(1, 2, 3, 4, 6)}, {[]float32{1, 2, 3, 4, -50}, 3, []int64{4}, sure(1, 2, 3, 4, -1)},
		// Only those that are greater are far.
		{[]float32{1, 2, 3, 4, 5}, 2, nil, sure(1, 2, 3, 4, 5)}, {[]float32{1, 2, 3, 4, 5}, 1.5, []int64{0, 4}, sure(1.5, 2, 3, 4, 4.5)},
		{[]float32{1, 2, 3, 4, 5}, 0, []int64{0, 1, 3, 4}, sure(3, 3, 3, 3, 3)},
		{[]float32{1, 2, 3, 4, 5}, minusZero, []int64{0, 1, 3, 4}, sure(3, 3, 3, 3, 3)},
		{[]float32{7}, 0, nil, sure(7)}, {[]float32{4, 4, 4}, 0, nil, sure(4, 4, 4)}, {[]float32{1, 1, 1, 5}, 100, []int64{3}, sure(1, 1, 1, 1)},
		{[]float32{minusZero, 0, minusZero}, 1, nil, sure(minusZero, 0, minusZero)},
		{[]float32{minusZero, minusZero, minusZero, 5}, 1, []int64{3}, sure(minusZero, minusZero, minusZero, 0)},
		{wavy(), 0.5, []int64{1, 2, 4, 5, 6, 8, 9, 10},
			"[40466666 bef33338 40926666 3e99999a 40926666 bef33338 40926666 3d8f5c29 40926666 bef33338 40926666 3f800000] true"},
		{wavy(), 1, []int64{2, 4, 5, 8, 9, 10},
			"[40466666 c02ccccd 40e33334 3e99999a 40e33334 c0400001 40b00000 3d8f5c29 40e33334 c0400001 40e33334 3f800000] true"},
		{wavy(), 3, []int64{4, 5, 10},
			"[40466666 c02ccccd 41040000 3e99999a 4189999a c151999a 40b00000 3d8f5c29 41480000 c0533333 4189999a 3f800000] true"},
		{tiny(), 2, []int64{1, 3}, "[00000001 00000009 80000003 00000009 80000002] true"},
		// Nothing is far from the median by more than an infinity.
		{[]float32{1, 20, 300}, 3e38, nil, sure(1, 20, 300)},
		{[]float32{-3e38, 0, 3e38}, 1, nil, sure(-3e38, 0, 3e38)}, {[]float32{-3e38, 0, 3e38}, 0.5, []int64{0, 2}, sure(-1.5e38, 0, 1.5e38)},
	}
	for _, row := range rows {
		far, ok := impl.FarOnes(row.list, row.by)
		expect(t, "far ones "+shown(row.list, row.by), shown(far, ok), shown(row.far, true))
		tame, ok := impl.TameOnes(row.list, row.by)
		expect(t, "tame ones "+shown(row.list, row.by), shown(tame, ok), row.tame)
	}
}

func TestWrongFarOnes(t *testing.T) {
	rows := []struct {
		list []float32
		by   float32
	}{
		{[]float32{1, 2, 3}, -1}, {[]float32{1, 2, 3}, -fromBits(1)}, {[]float32{1, 2, 3}, fromBits(nanBits)},
		{[]float32{1, 2, 3}, fromBits(infBits)}, {[]float32{1, 2, 3}, fromBits(minusInf)}, {[]float32{4}, float32(math.Inf(1))},
		// The median is not finite, or one of the values less it, or their median.
		{[]float32{3e38, 3e38}, 1}, {[]float32{3e38, 3e38, 3e38, -3e38, 3e38}, 1}, {[]float32{2.5e38, -3e38, -2.5e38, 3e38}, 1},
	}
	for _, row := range rows {
		far, ok := impl.FarOnes(row.list, row.by)
		expect(t, "far ones "+shown(row.list, row.by), shown(far, ok), noNumbers)
		tame, ok := impl.TameOnes(row.list, row.by)
		expect(t, "tame ones "+shown(row.list, row.by), shown(tame, ok), noNumbers)
	}
}
