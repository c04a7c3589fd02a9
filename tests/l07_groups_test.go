package tests

import (
	"testing"

	"loop.example/g01375/impl"
)

type centerRow struct {
	list          [][]float32
	count, rounds int64
	want          string
}

func centerRows() []centerRow {
	return []centerRow{
		{[][]float32{{0}, {4}, {6}}, 2, 1, "[[00000000] [40a00000]] [0 1 1] true"},
		{[][]float32{{0}, {4}, {6}}, 2, 0, "[[00000000] [40800000]] [0 1 1] true"},
		{[][]float32{{0}, {4}, {6}}, 2, 2, "[[00000000] [40a00000]] [0 1 1] true"},
		{[][]float32{{1, 1}, {2, 1}, {9, 8}, {8, 8}, {1, 2}, {9.5, 9}}, 2, 0, "[[3f800000 3f800000] [40000000 3f800000]] [0 1 1 1 0 1] true"},
		{[][]float32{{1, 1}, {2, 1}, {9, 8}, {8, 8}, {1, 2}, {9.5, 9}}, 2, 1, "[[3f800000 3fc00000] [40e40000 40d00000]] [0 0 1 1 0 1] true"},
		{[][]float32{{1, 1}, {2, 1}, {9, 8}, {8, 8}, {1, 2}, {9.5, 9}}, 2, 2, "[[3faaaaab 3faaaaab] [410d5555 41055555]] [0 0 1 1 0 1] true"},
		{[][]float32{{1, 1}, {2, 1}, {9, 8}, {8, 8}, {1, 2}, {9.5, 9}}, 2, 5, "[[3faaaaab 3faaaaab] [410d5555 41055555]] [0 0 1 1 0 1] true"},
		{[][]float32{{1, 1}, {2, 1}, {9, 8}, {8, 8}, {1, 2}, {9.5, 9}}, 3, 32, "[[3f800000 3fc00000] [40000000 3f800000] [410d5555 41055555]] [0 1 2 2 0 2] true"},
		{[][]float32{{1, 1}, {2, 1}, {9, 8}, {8, 8}, {1, 2}, {9.5, 9}}, 3, 33, "[] [] false"},
		{[][]float32{{1, 1}, {2, 1}, {9, 8}, {8, 8}, {1, 2}, {9.5, 9}}, 3, -1, "[] [] false"},
		{[][]float32{rough(), wavy(), heights()[:12], heights()[2:], placesOf(12)}, 3, 3, "[[40855555 40aaaaab bd888880 4192aaab 40047ae1 bf555553 40bccccd 412aaaab 40377778 417d5555 40944444 3fe00000] [40466666 c02ccccd 41040000 3e99999a 447a0000 c23c70a4 40b00000 3d8f5c29 41480000 c0533333 42c7cccd 3f800000] [40466666 3f000000 41400000 40f80000 3f8ccccd 42200000 400ccccd 3f666666 41180000 40c00000 3fa66666 42040000]] [0 1 2 0 0] true"},
		{[][]float32{wavy(), rough(), heights()[:12], heights()[2:], placesOf(12)}, 2, 1, "[[40466666 c02ccccd 41040000 3e99999a 447a0000 c23c70a4 40b00000 3d8f5c29 41480000 c0533333 42c7cccd 3f800000] [4079999a 40840000 403ccccd 417b0000 3fe9eb85 41160000 409f3333 4103999a 4090cccd 41560000 40733333 41190000]] [0 1 1 1 1] true"},
		{shapesOf(wholeNumbers(60), impl.MaxShapes, 5), 4, 1, "[[46938355 47023055 46ec8d55 479538ab 4715d700] [478b6200 46d19200 47bfa780 47a68800 47ac5780] [47a34b1a 46d9a333 473b4ccd 47a3d300 47595acd] [47512292 474f27db 471b6edb 472593db 476d96db]] [0 1 2 3 3 2 3 3 3 0 3 2 0 2 2 3] true"},
		{shapesOf(wholeNumbers(60), impl.MaxShapes, 5), 4, 7, "[[46938355 47023055 46ec8d55 479538ab 4715d700] [478b6200 46d19200 47bfa780 47a68800 47ac5780] [47a34b1a 46d9a333 473b4ccd 47a3d300 47595acd] [47512292 474f27db 471b6edb 472593db 476d96db]] [0 1 2 3 3 2 3 3 3 0 3 2 0 2 2 3] true"},
		{shapesOf(wholeNumbers(60), impl.MaxShapes, 5), 7, 2, "[[00000000 45f87000 46f7f400 478b6200 46d19200] [478b6200 46d19200 47bfa780 47a68800 47ac5780] [47b6a300 46af4b55 47045000 47b88755 478a842b] [47724e66 46f70d33 4710bd66 4715b19a 475883cd] [47168680 47861d80 4664aa00 47954d80 47534680] [47400c00 473bcd00 47756c00 47b67480 471ba100] [4722d380 478c4400 47846480 46e72d00 475f9380]] [0 1 2 3 4 5 6 6 3 4 3 3 5 2 2 3] true"},
		{shapesOf(wholeNumbers(60), impl.MaxShapes+1, 5), 4, 1, "[] [] false"},
		// Counts of 1, how many there are, one more, and 0.
		{[][]float32{{3, 1}, {5, 2}, {7, 9}}, 1, 0, "[[40400000 3f800000]] [0 0 0] true"},
		{[][]float32{{3, 1}, {5, 2}, {7, 9}}, 1, 1, "[[40a00000 40800000]] [0 0 0] true"},
		{[][]float32{{3, 1}, {5, 2}, {7, 9}}, 1, 32, "[[40a00000 40800000]] [0 0 0] true"},
		{[][]float32{{3, 1}, {5, 2}, {7, 9}}, 3, 1, "[[40400000 3f800000] [40a00000 40000000] [40e00000 41100000]] [0 1 2] true"},
		{[][]float32{{3, 1}, {5, 2}, {7, 9}}, 4, 1, "[] [] false"},
		{[][]float32{{3, 1}, {5, 2}, {7, 9}}, 0, 1, "[] [] false"},
		{[][]float32{{3, 1}, {5, 2}, {7, 9}}, -1, 1, "[] [] false"},
		{[][]float32{{7}}, 1, 0, "[[40e00000]] [0] true"},
		{[][]float32{{7}}, 1, 5, "[[40e00000]] [0] true"},
		{shapesOf(wholeNumbers(40), impl.MaxShapes, 2), impl.MaxShapes, 3, "[[00000000 45f87000] [46f7f400 478b6200] [47bfa780 47a68800] [47ac5780 45dc4800] [47b40e80 47649100] [471ee300 47171300] [47a08680 46d86800] [47adee00 47815f80] [47850f80 47b54e00] [47025400 47af4680] [47435300 47528300] [478fc880 460f6800] [46d95200 462a3000] [46193400 46bfd800] [44c42000 47795a00] [470c2000 47325000]] [0 1 2 3 4 5 6 7 8 9 10 11 12 13 14 15] true"},
		{shapesOf(wholeNumbers(40), impl.MaxShapes, 2), impl.MaxShapes + 1, 3, "[] [] false"},
		// Centers that have no series stay, and may get some again.
		{[][]float32{{3}, {3}, {4}}, 2, 1, "[[40555555] [40400000]] [1 1 0] true"},
		{[][]float32{{3}, {3}, {4}}, 2, 0, "[[40400000] [40400000]] [0 0 0] true"},
		{[][]float32{{3}, {3}, {9}, {8}}, 2, 3, "[[41080000] [40400000]] [1 1 0 0] true"},
		{[][]float32{{0, 1}, {0, 1}, {0, 1}, {5, 5}}, 3, 2, "[[40a00000 40a00000] [00000000 3f800000] [00000000 3f800000]] [1 1 1 0] true"},
		{repeated([]float32{0.1, 0.7}, 5), 3, 2, "[[3dcccccd 3f333333] [3dcccccd 3f333333] [3dcccccd 3f333333]] [0 0 0 0 0] true"},
		{repeated([]float32{0.1, 7.3}, 7), 2, 2, "[[3dccccce 40e99999] [3dccccce 40e99999]] [0 0 0 0 0 0 0] true"},
		// Several centers are nearest.
		{[][]float32{{0}, {4}, {2}}, 2, 0, "[[00000000] [40800000]] [0 1 0] true"},
		{[][]float32{{4}, {0}, {2}}, 2, 0, "[[40800000] [00000000]] [0 1 0] true"},
		{[][]float32{{0}, {4}, {2}}, 2, 1, "[[3f800000] [40800000]] [0 1 0] true"},
		{[][]float32{{4}, {0}, {2}}, 2, 1, "[[40400000] [00000000]] [0 1 0] true"},
		// Sums begin with +0, and go in the order of the series.
		{[][]float32{{fromBits(negZero), 1}}, 1, 0, "[[80000000 3f800000]] [0] true"},
		{[][]float32{{fromBits(negZero), 1}}, 1, 1, "[[00000000 3f800000]] [0] true"},
		{[][]float32{{fromBits(negZero)}, {5}, {5}}, 2, 0, "[[80000000] [40a00000]] [0 1 1] true"},
		{[][]float32{{1e8}, {1}, {-1e8}}, 1, 1, "[[00000000]] [0 0 0] true"},
		{[][]float32{{1e8}, {-1e8}, {1}}, 1, 1, "[[3eaaaaab]] [0 0 0] true"},
		{[][]float32{{0.1}, {0.7}, {0.3}, {0.9}}, 1, 1, "[[3f000000]] [0 0 0 0] true"},
		{[][]float32{tiny(), {0, 0, 0, 0, 0}, tiny()}, 1, 1, "[[00000001 00555555 80000002 00555556 80000001]] [0 0 0] true"},
		// A series is too far from a center, or a center is not finite, or only just is.
		{[][]float32{{3e38}, {1}}, 1, 0, "[] [] false"},
		{[][]float32{{3e38}, {1}}, 2, 0, "[] [] false"},
		{[][]float32{{1}, {2}, {2e19}}, 2, 0, "[] [] false"},
		{[][]float32{{1}, {2}, {1.8e19}}, 2, 0, "[[3f800000] [40000000]] [0 1 0] true"},
		{[][]float32{{3e38}, {3e38}}, 1, 0, "[[7f61b1e6]] [0 0] true"},
		{[][]float32{{3e38}, {3e38}}, 1, 1, "[] [] false"},
		{[][]float32{{3e38}, {3e38}}, 2, 5, "[] [] false"},
		{[][]float32{{1.6e38}, {1.6e38}}, 1, 1, "[[7ef0bdc2]] [0 0] true"},
		{[][]float32{{1.8e19}, {-1e18}, {-1e18}}, 1, 0, "[] [] false"},
		{[][]float32{{1.8e19}, {-1e18}, {-1e18}}, 1, 1, "[] [] false"},
		{[][]float32{{0}, {1.8e19}, {-1.8e19}}, 1, 1, "[[00000000]] [0 0 0] true"},
		{[][]float32{{0}, {1.8e19}, {1.7e19}, {-1.8e19}}, 1, 1, "[] [] false"},
	}
}

const noGroups = "[] [] false"

func TestCentersOf(t *testing.T) {
	rows := centerRows()
	for _, wrong := range wrongShapes() {
		rows = append(rows, centerRow{wrong, 1, 0, noGroups}, centerRow{wrong, 1, 1, noGroups}, centerRow{wrong, int64(len(wrong)), 2, noGroups})
	}
	for _, n := range farInts() {
		rows = append(rows, centerRow{[][]float32{{3}, {9}}, n, 1, noGroups}, centerRow{[][]float32{{3}, {9}}, 1, n, noGroups}, centerRow{[][]float32{{3}, {9}}, n, n, noGroups})
	}
	for _, row := range rows {
		centers, groups, ok := impl.CentersOf(row.list, row.count, row.rounds)
		expect(t, "centers of "+shown(row.list, row.count, row.rounds), shown(centers, groups, ok), row.want)
	}
}

func TestTreeOfShapes(t *testing.T) {
	type joinRow struct {
		list [][]float32
		want string
	}
	rows := []joinRow{
		{[][]float32{{0}, {4}, {5}}, "[1 2 0 1] [3f800000 40800000] true"},
		{[][]float32{{0}, {4}}, "[0 1] [40800000] true"},
		{[][]float32{{5}, {4}, {0}}, "[0 1 0 2] [3f800000 40800000] true"},
		{[][]float32{{9}, {0}, {5}, {3}, {1}}, "[1 4 1 3 1 2 0 1] [3f800000 40000000 40000000 40800000] true"},
		{[][]float32{rough(), wavy(), heights()[:12], heights()[2:], placesOf(12)}, "[0 4 0 2 0 3 0 1] [41f7ac75 42325dee 42352e19 447a6669] true"},
		{shapesOf(wholeNumbers(60), impl.MaxShapes, 5), "[2 14 10 15 3 10 5 12 3 8 3 7 4 6 3 9 3 4 0 5 0 3 0 11 2 13 0 2 0 1] [464b5d6e 4657f7ba 465f52f8 472c6be3 475c4249 475d1417 475f8559 4762a053 4764175c 47649bd8 476537d9 47697902 47725af5 477a4be6 4786cf00] true"},
		{shapesOf(wholeNumbers(90), impl.MaxShapes, 12), "[3 15 3 14 10 11 3 6 3 10 3 7 3 13 2 3 2 9 2 8 2 4 2 5 1 2 1 12 0 1] [475c1533 4764e5ea 47b6de98 47c3058d 47c4b4c5 47c57829 47c584d4 47c62b1c 47d38947 47d442e0 47d4d825 47d9bbff 47dcaad5 47e82165 47ebbbc2] true"},
		{shapesOf(wholeNumbers(60), impl.MaxShapes+1, 5), "[] [] false"},
		{[][]float32{wholeNumbers(impl.MaxLong), placesOf(impl.MaxLong), repeated(float32(50000), impl.MaxLong)}, "[0 2 0 1] [4881ac51 48eefb14] true"},
		// One series alone.
		{[][]float32{{0}}, "[] [] false"},
		{[][]float32{rough()}, "[] [] false"},
		// The least of all pairs counts, so that a chain is joined step by step.
		{[][]float32{{0}, {10}, {1}, {3}, {6}}, "[0 2 0 3 0 4 0 1] [3f800000 40000000 40400000 40800000] true"},
		{[][]float32{{6}, {3}, {1}, {10}, {0}}, "[2 4 1 2 0 1 0 3] [3f800000 40000000 40400000 40800000] true"},
		{[][]float32{{0, 0}, {1, 0}, {2, 0}, {3, 0}, {1.5, 1.9}}, "[0 1 0 2 0 3 0 4] [3f800000 3f800000 3f800000 3ffb7ae8] true"},
		{[][]float32{{0}, {100}, {2}, {103}, {5}, {107}}, "[0 2 0 4 1 3 1 5 0 1] [40000000 40400000 40400000 40800000 42be0000] true"},
		// Several pairs are nearest: the first one in the order of i, then of k.
		{[][]float32{{0}, {1}, {2}, {3}}, "[0 1 0 2 0 3] [3f800000 3f800000 3f800000] true"},
		{[][]float32{{0}, {2}, {1}, {3}}, "[0 2 0 1 0 3] [3f800000 3f800000 3f800000] true"},
		{[][]float32{{5}, {1}, {0}, {6}}, "[0 3 1 2 0 1] [3f800000 3f800000 40800000] true"},
		{[][]float32{{3}, {7}, {0}, {8}, {1}}, "[1 3 2 4 0 2 0 1] [3f800000 3f800000 40000000 40800000] true"},
		{[][]float32{{0, 0}, {3, 4}, {5, 0}, {0, -5}}, "[1 2 0 1 0 3] [408f1bbd 40a00000 40a00000] true"},
		{repeated([]float32{0.1, 0.7}, 5), "[0 1 0 2 0 3 0 4] [00000000 00000000 00000000 00000000] true"},
		{repeated([]float32{2}, impl.MaxShapes), "[0 1 0 2 0 3 0 4 0 5 0 6 0 7 0 8 0 9 0 10 0 11 0 12 0 13 0 14 0 15] [00000000 00000000 00000000 00000000 00000000 00000000 00000000 00000000 00000000 00000000 00000000 00000000 00000000 00000000 00000000] true"},
		{[][]float32{{0}, {fromBits(negZero)}, {0}}, "[0 1 0 2] [00000000 00000000] true"},
		{[][]float32{{1e-23}, {0}, {1}, {1}}, "[0 1 2 3 0 2] [00000000 00000000 3f800000] true"},
		// Two are too far apart, or only just are not.
		{[][]float32{{3e38}, {-3e38}}, "[] [] false"},
		{[][]float32{{0}, {1}, {2e19}}, "[] [] false"},
		{[][]float32{{0}, {1}, {1.8e19}}, "[0 1 0 2] [3f800000 5f79ccd9] true"},
		{[][]float32{{0}, {1e19}, {2e19}}, "[] [] false"},
		{[][]float32{{-1e19}, {0}, {1e19}}, "[] [] false"},
	}
	for _, wrong := range wrongShapes() {
		rows = append(rows, joinRow{wrong, noGroups})
	}
	for _, row := range rows {
		pairs, fars, ok := impl.TreeOfShapes(row.list)
		expect(t, "tree of "+shown(row.list), shown(pairs, fars, ok), row.want)
	}
}

type widthRow struct {
	list   [][]float32
	groups []int64
	want   string
}

func TestWidthOfCenters(t *testing.T) {
	rows := []widthRow{
		{[][]float32{{0}, {4}}, []int64{1, 1}, "40800000 true"},
		{[][]float32{{0}, {4}}, []int64{1, 0}, "00000000 true"},
		{[][]float32{{0}, {4}, {9}}, []int64{3, 3, 3}, "41100000 true"},
		{[][]float32{{9}, {4}, {0}}, []int64{3, 3, 3}, "41100000 true"},
		{[][]float32{{0}, {4}, {9}}, []int64{2, 2, 5}, "40800000 true"},
		{[][]float32{{0}, {4}, {9}}, []int64{5, 2, 2}, "40a00000 true"},
		{[][]float32{{0}, {4}, {9}}, []int64{2, 5, 2}, "41100000 true"},
		{[][]float32{{0, 0}, {10, 10}, {3, 4}, {10, 12}, {1, 1}}, []int64{0, 1, 0, 1, 0}, "40a00000 true"},
		{[][]float32{rough(), wavy(), heights()[:12], heights()[2:], placesOf(12)}, []int64{0, 1, 0, 0, 2}, "428a2526 true"},
		{[][]float32{rough(), wavy(), heights()[:12], heights()[2:], placesOf(12)}, []int64{0, 0, 0, 0, 0}, "447c0832 true"},
		{shapesOf(wholeNumbers(60), impl.MaxShapes, 5), []int64{0, 1, 2, 3, 4, 5, 6, 7, 8, 9, 10, 11, 12, 13, 14, 15}, "00000000 true"},
		{shapesOf(wholeNumbers(60), impl.MaxShapes, 5), []int64{15, 1, 2, 3, 4, 5, 6, 7, 8, 9, 10, 11, 12, 13, 14, 15}, "479cad3a true"},
		{shapesOf(wholeNumbers(60), impl.MaxShapes, 5), []int64{0, 1, 0, 1, 0, 2, 1, 2, 2, 1, 0, 1, 2, 0, 1, 2}, "47fa7d2e true"},
		{shapesOf(wholeNumbers(60), impl.MaxShapes+1, 5), repeated(int64(0), impl.MaxShapes+1), "00000000 false"},
		// Each group has one series only, or the same ones.
		{[][]float32{{7}}, []int64{0}, "00000000 true"},
		{[][]float32{{7}}, []int64{impl.MaxShapes - 1}, "00000000 true"},
		{[][]float32{{7}, {8}, {9}}, []int64{0, 1, 2}, "00000000 true"},
		{[][]float32{{7}, {7}, {9}}, []int64{0, 0, 2}, "00000000 true"},
		{[][]float32{{0}, {fromBits(negZero)}}, []int64{4, 4}, "00000000 true"},
		{[][]float32{{1e-23}, {0}}, []int64{4, 4}, "00000000 true"},
		// Groups of -1, 0, MaxShapes - 1 and MaxShapes.
		{[][]float32{{0}, {4}}, []int64{-1, -1}, "00000000 false"},
		{[][]float32{{0}, {4}}, []int64{0, -1}, "00000000 false"},
		{[][]float32{{0}, {4}}, []int64{0, 0}, "40800000 true"},
		{[][]float32{{0}, {4}}, []int64{impl.MaxShapes - 1, impl.MaxShapes - 1}, "40800000 true"},
		{[][]float32{{0}, {4}}, []int64{impl.MaxShapes, impl.MaxShapes}, "00000000 false"},
		{[][]float32{{0}, {4}}, []int64{0, impl.MaxShapes}, "00000000 false"},
		// Another number of groups.
		{[][]float32{{0}, {4}}, []int64{0}, "00000000 false"},
		{[][]float32{{0}, {4}}, []int64{0, 0, 0}, "00000000 false"},
		{[][]float32{{0}, {4}}, nil, "00000000 false"},
		{nil, nil, "00000000 false"},
		{nil, []int64{0}, "00000000 false"},
		// Two are too far apart, of the same group or not.
		{[][]float32{{3e38}, {-3e38}}, []int64{0, 0}, "00000000 false"},
		{[][]float32{{3e38}, {-3e38}}, []int64{0, 1}, "00000000 true"},
		{[][]float32{{3e38}, {1}, {-3e38}, {2}}, []int64{0, 1, 2, 1}, "3f800000 true"},
		{[][]float32{{2e19}, {0}}, []int64{7, 7}, "00000000 false"},
		{[][]float32{{1.8e19}, {0}}, []int64{7, 7}, "5f79ccd9 true"},
	}
	for _, wrong := range wrongShapes() {
		rows = append(rows, widthRow{wrong, make([]int64, len(wrong)), noNumber}, widthRow{wrong, placesAsInts(len(wrong)), noNumber})
	}
	for _, group := range farInts() {
		rows = append(rows, widthRow{[][]float32{{0}, {4}}, []int64{group, 0}, noNumber}, widthRow{[][]float32{{0}, {4}}, []int64{group, group}, noNumber})
	}
	for _, row := range rows {
		width, ok := impl.WidthOfCenters(row.list, row.groups)
		expect(t, "width of "+shown(row.list, row.groups), shown(width, ok), row.want)
	}
}

func placesAsInts(count int) []int64 {
	list := make([]int64, count)
	for i := range list {
		list[i] = int64(i)
	}
	return list
}
