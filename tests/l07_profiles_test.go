package tests

import (
	"slices"
	"testing"

	"loop.example/g01375/impl"
)

const noProfile = "[] [] false"

type profileRow struct {
	a    []float32
	long int64
	want string
}

// waves returns count numbers that come again after as many as season has.
func waves(season []float32, count int) []float32 { return going(0, 0, season, 0, count) }

// withNumber returns a series in which one number is another one.
func withNumber(a []float32, place int, x float32) []float32 {
	changed := slices.Clone(a)
	changed[place] = x
	return changed
}

func profileRows() []profileRow {
	return []profileRow{
		{[]float32{0, 1, 2, 0, 1}, 2, "[00000000 00000000 403504f3 00000000] [3 3 0 0] true"},
		{[]float32{0, 1, 5, 0, 1}, 2, "[00000000 00000000 403504f3 00000000] [3 3 0 0] true"},
		{rough(), 2, "[33800000 00000000 33800000 00000000 00000000 33800000 34000000 33800000 33800000 34000000 33800000] [2 3 0 1 1 2 0 10 0 1 1] true"},
		{rough(), 3, "[3ec8af20 3e45179c 3e0c0e27 3ed08ad5 3e45179c 3fedec28 3ec8af20 3f9f6723 3e0c0e27 3ed08ad5] [6 4 8 9 1 1 0 3 2 3] true"},
		{rough(), 4, "[3fefc11f 3feb77a2 3f1206e9 3fd2dcac 4005960d 4004672f 3fb0beaf 3fd2dcac 3f1206e9] [6 7 8 7 0 1 2 3 2] true"},
		{wavy(), 2, "[00000000 33800000 34000000 00000000 00000000 00000000 33800000 00000000 34000000 00000000 00000000] [4 3 0 5 0 3 0 9 0 7 0] true"},
		{wavy(), 4, "[3f4d01de 3e8655e5 3e8200b0 404426b0 4025fdb2 4000dc75 3f6e3d34 3e8655e5 3e8200b0] [8 7 8 7 0 1 0 1 2] true"},
		{heights(), 2, "[00000000 33800000 00000000 33800000 34000000 00000000 34000000 33800000 00000000 33800000 33800000 34000000 00000000] [2 10 0 9 1 0 11 10 0 3 1 0 0] true"},
		{heights(), 5, "[3e2de865 3d8a37ed 3dc2cdc1 3dc7aa4a 406bca81 405fcd93 3e2de865 3d8a37ed 3dc2cdc1 3dc7aa4a] [6 7 8 9 9 0 0 1 2 3] true"},
		{steep(), 2, "[] [] false"},
		{wholeNumbers(40), 10, "[403a26da 406d809a 404f5c87 405b38bd 405ee907 4043b027 40641ab5 4059b005 405fd4ae 3ebe03e3 3ecac22a 3ec9573c 403a26da 40738504 405bf972 406e0a5a 404f5c87 4034feb8 405e4398 40690062 40641ab5 4059b005 4067b87f 406357d5 405ee907 4043b027 405a2486 405bb7d9 3ebe03e3 3ecac22a 3ec9573c] [12 25 16 17 24 25 20 21 27 28 29 30 0 1 0 1 2 30 0 5 6 7 2 3 4 5 2 3 9 10 11] true"},
		{wholeNumbers(impl.MaxLong), 30, "[40ca5232 40c8effd 40cb3622 40c6f30f 40c19dc0 40bc5e70 40b59ef0 40af7101 40ac903d 40a80ac7 40cabeac 40d1b308 40cae5d7 40c0bb55 40b81cd5 40b67244 40b57fb2 40a5593b 40b943d5 40b8a961 40b6e7ab 40c2c916 40d15ddb 40d40577 40d04a73 40c952f6 40c8af2c 40d5e9c4 40d2f444 40d2ae93 40cd78ed 40cbea48 40d0ca65 40cfc7f0 40d70892 40d0ff4b 40cd1a8a 40cdab85 40c97333 40c9be43 40cabeac 40c8effd 40cb3622 40caa39c 40c488bf 40c627e7 40c3dcb6 40c56621 40ce1d2a 40d078d7 40c64c8d 40c0bb55 40b81cd5 40b67244 40b57fb2 40a5593b 40b943d5 40b8a961 40b6e7ab 40c2c916 40c6f30f 40c19dc0 40bc5e70 40b59ef0 40af7101 40ac903d 40a80ac7] [60 41 42 60 61 62 63 64 65 66 40 49 50 51 52 53 54 55 56 57 58 59 60 63 64 65 66 63 58 59 0 1 62 63 1 2 6 7 8 9 10 1 2 3 4 5 6 7 8 9 6 13 14 15 16 17 18 19 20 21 3 4 5 6 7 8 9] true"},
		{wholeNumbers(impl.MaxLong + 1), 30, "[] [] false"},
		{shuffled(35, 89), 29, "[00000000 00000000 00000000 00000000 00000000 40549725 405cc913 405a5af9 4058149a 405dd4e3 4055ab44 405c0ff3 405b6ae1 4056d4c3 405dcb75 4056d4c2 405b6ae3 405c0ff2 4055ab44 405dd4e2 4058149a 405ad95d 405cc913 40549725 405df134 40596bd8 405a5af9 405d96d6 40de9403 40e5cf00 40f4417d 40de9403 40e5cf00 40934281 405d96d5 405a5af9 40596bd8 405df135 40549725 405cc913 405ad95e 4058149a 405dd4e3 4055ab44 405c0ff3 405b6ae1 4056d4c3 405dcb75 4056d4c2 405b6ae3 405c0ff2 40549725 405dd4e2 4058149a 405a5af9 405cc913 00000000 00000000 00000000 00000000 00000000] [56 57 58 59 60 38 39 58 41 42 43 44 45 46 47 48 49 50 51 52 53 54 55 56 57 58 59 60 59 60 60 0 1 0 1 2 3 4 5 6 7 8 9 10 11 12 13 14 15 16 17 0 19 20 3 22 0 1 2 3 4] true"},
		// As long as parts may be, but places in the middle have no other one; places that just have one.
		{rough(), 5, "[] [] false"},
		{rough(), 6, "[] [] false"},
		{rough(), 7, "[] [] false"},
		{rough()[:11], 4, "[3fefc11f 3feb77a2 3fb0beaf 3fd2dcac 4005960d 4004672f 3fb0beaf 3fd2dcac] [6 7 6 7 0 1 2 3] true"},
		{rough()[:10], 4, "[] [] false"},
		{rough()[:11], 5, "[] [] false"},
		{rough()[:11], 6, "[] [] false"},
		{[]float32{0, 1, 0, 1}, 2, "[] [] false"},
		{[]float32{0, 1, 0, 1, 0}, 2, "[00000000 00000000 00000000 00000000] [2 3 0 1] true"},
		{[]float32{0, 1, 0, 1, 0}, 3, "[] [] false"},
		{[]float32{0, 1, 0}, 2, "[] [] false"},
		{[]float32{0, 1}, 2, "[] [] false"},
		{wholeNumbers(impl.MaxLong), 32, "[40d49d11 40cf6b79 40d06811 40cbf735 40c67877 40c097f2 40bf72e2 40bcbd11 40d4e4dd 40d38842 40d4729f 40d15ce3 40ce9f38 40c8ae24 40c0f3e1 40bd9364 40cbd3d7 40c072b2 40c1f259 40cc3b49 40d41b11 40d495cd 40db1523 40d7f1c8 40d0bd0e 40dd1254 40dc2648 40dbea3b 40db9ee1 40df396b 40dc212e 40ddc65b 40e317a2 40d7236a 40e11f5f 40e8a98b 40ee04e1 40e6c66f 40e176db 40dd862a 40d72bd6 40cf6b79 40d06811 40cbf735 40ce5285 40d014dc 40cb840e 40d1230e 40d6a096 40d15ce3 40cc9399 40c8ae24 40c0f3e1 40bd9364 40cbd3d7 40c072b2 40c1f259 40cc3b49 40d40702 40d41713 40d06f88 40c67877 40c097f2 40bf72e2 40bcbd11] [57 41 42 43 61 62 63 64 44 49 42 49 50 51 52 53 54 55 56 57 58 59 60 63 64 61 58 59 60 61 62 63 64 0 1 2 3 4 1 2 0 1 2 3 4 5 6 7 10 11 6 13 14 15 16 17 18 19 1 2 3 4 5 6 7] true"},
		{wholeNumbers(impl.MaxLong), 33, "[] [] false"},
		{wholeNumbers(impl.MaxLong - 1), 32, "[40d49d11 40cf6b79 40d06811 40cbf735 40c67877 40c097f2 40bf72e2 40d1230e 40d4e4dd 40d38842 40d4729f 40d15ce3 40ce9f38 40c8ae24 40c0f3e1 40bd9364 40cbd3d7 40c072b2 40c1f259 40cc3b49 40d41b11 40d495cd 40db1523 40d7f1c8 40e084ff 40dd1254 40dc2648 40dbea3b 40db9ee1 40df396b 40dc212e 40ddc65b 40e758ef 40d7236a 40e11f5f 40e8a98b 40ee04e1 40e6c66f 40e176db 40dd862a 40d72bd6 40cf6b79 40d06811 40cbf735 40ce5285 40d014dc 40cb840e 40d1230e 40d6a096 40d15ce3 40cc9399 40c8ae24 40c0f3e1 40bd9364 40cbd3d7 40c072b2 40c1f259 40cc3b49 40d40702 40d41713 40d06f88 40c67877 40c097f2 40bf72e2] [57 41 42 43 61 62 63 47 44 49 42 49 50 51 52 53 54 55 56 57 58 59 60 63 56 61 58 59 60 61 62 63 0 0 1 2 3 4 1 2 0 1 2 3 4 5 6 7 10 11 6 13 14 15 16 17 18 19 1 2 3 4 5 6] true"},
		{wholeNumbers(impl.MaxLong), 48, "[] [] false"},
		{wholeNumbers(impl.MaxLong), 49, "[] [] false"},
		// Parts that are too short, and more than there is.
		{rough(), 1, "[] [] false"},
		{rough(), 0, "[] [] false"},
		{rough(), -1, "[] [] false"},
		{rough(), 12, "[] [] false"},
		{rough(), 13, "[] [] false"},
		{[]float32{5}, 1, "[] [] false"},
		{[]float32{5}, 2, "[] [] false"},
		// Several others are nearest: the first one that is apart.
		{waves([]float32{1, 5, 2}, 15), 3, "[00000000 00000000 00000000 00000000 00000000 00000000 00000000 00000000 00000000 00000000 00000000 00000000 00000000] [3 4 5 0 1 2 0 1 2 0 1 2 0] true"},
		{waves([]float32{1, 5, 2}, 15), 2, "[00000000 00000000 00000000 00000000 00000000 00000000 00000000 00000000 00000000 00000000 00000000 00000000 00000000 00000000] [3 4 4 0 1 1 0 1 1 0 1 1 0 1] true"},
		{waves([]float32{1, 5, 2, 7}, 20), 4, "[00000000 00000000 00000000 00000000 00000000 00000000 00000000 00000000 00000000 00000000 00000000 00000000 00000000 00000000 00000000 00000000 00000000] [4 5 6 7 0 1 2 3 0 1 2 3 0 1 2 3 0] true"},
		{[]float32{0, 1, 0, 1, 0, 1, 0, 1}, 2, "[00000000 00000000 00000000 00000000 00000000 00000000 00000000] [2 3 0 1 0 1 0] true"},
		// Parts that never change: all of a series, one at its beginning, in the middle, at its end, and none that is as long.
		{repeated(float32(2), 12), 2, "[] [] false"},
		{repeated(float32(2), 12), 4, "[] [] false"},
		{[]float32{2, 2, 1, 5, 3, 4, 0}, 2, "[] [] false"},
		{[]float32{1, 5, 3, 3, 4, 0, 2}, 2, "[] [] false"},
		{[]float32{1, 5, 3, 4, 0, 2, 2}, 2, "[] [] false"},
		{[]float32{1, 5, 3, 3, 4, 0, 2, 6}, 3, "[40009348 3f6585f9 3f132df4 4008a639 3f6585f9 3f132df4] [5 4 5 0 1 2] true"},
		{[]float32{1, 5, 3, 3, 3, 4, 0, 2, 6}, 3, "[] [] false"},
		// Parts that never change differ from their rounded mean.
		{repeated(float32(0.1), 20), 7, "[00000000 00000000 00000000 00000000 00000000 00000000 00000000 00000000 00000000 00000000 00000000 00000000 00000000 00000000] [7 8 9 10 11 12 13 0 0 0 0 0 0 0] true"},
		{repeated(float32(0.3), 20), 6, "[00000000 00000000 00000000 00000000 00000000 00000000 00000000 00000000 00000000 00000000 00000000 00000000 00000000 00000000 00000000] [6 7 8 9 10 11 0 0 0 0 0 0 0 0 0] true"},
		{repeated(float32(0.3), 20), 5, "[] [] false"},
		// A norm fails for one part: its sum, or its squares, are too great, or too small.
		{[]float32{1, 2, 1, 3e38, 3e38, 1, 2}, 2, "[] [] false"},
		{[]float32{1, 2, 1, 2e19, -2e19, 1, 2}, 2, "[] [] false"},
		{[]float32{1, 2, 1e-23, 0, 4, 1, 2}, 2, "[] [] false"},
		{[]float32{1, 2, 1e-20, 0, 4, 1, 2}, 2, "[00000000 00000000 37870eb1 00000000 00000000 00000000] [3 4 4 0 1 0] true"},
	}
}

func TestProfileOf(t *testing.T) {
	rows := profileRows()
	for _, long := range farInts() {
		rows = append(rows, profileRow{rough(), long, noProfile})
	}
	for _, wrong := range wrongSeries() {
		for long := range int64(4) {
			rows = append(rows, profileRow{wrong, long, noProfile})
		}
	}
	rows = append(rows, profileRow{wholeNumbers(impl.MaxLong + 1), 3, noProfile})
	for place := range 12 {
		for _, x := range wrongNumbers() {
			rows = append(rows, profileRow{withNumber(rough(), place, x), 3, noProfile})
		}
	}
	for _, row := range rows {
		fars, others, ok := impl.ProfileOf(row.a, row.long)
		expect(t, "profile of "+shown(row.a, row.long), shown(fars, others, ok), row.want)
	}
}

func TestMotifOf(t *testing.T) {
	rows := []profileRow{
		{[]float32{0, 1, 2, 0, 1}, 2, "0 3 00000000 true"},
		{rough(), 2, "1 3 00000000 true"},
		{rough(), 3, "2 8 3e0c0e27 true"},
		{rough(), 4, "2 8 3f1206e9 true"},
		{wavy(), 3, "3 9 3e086aab true"},
		{heights(), 5, "1 7 3d8a37ed true"},
		{wholeNumbers(40), 10, "9 28 3ebe03e3 true"},
		{wholeNumbers(impl.MaxLong), 32, "7 64 40bcbd11 true"},
		{shuffled(35, 89), 9, "0 28 00000000 true"},
		{[]float32{9, 1, 5, 2, 8, 3, 7, 1, 5, 2, 8, 0}, 3, "1 7 00000000 true"},
		{[]float32{9, 1, 5, 2, 8, 3, 7, 1, 5, 2, 8, 0, 1, 5, 2, 8}, 4, "1 7 00000000 true"},
		// Several are least.
		{waves([]float32{1, 5, 2}, 15), 3, "0 3 00000000 true"},
		{waves([]float32{1, 5, 2, 7}, 20), 4, "0 4 00000000 true"},
		{[]float32{4, 0, 1, 0, 1, 0, 1, 0, 1}, 2, "0 2 00000000 true"},
		// None.
		{rough(), 5, "0 0 00000000 false"},
		{rough(), 7, "0 0 00000000 false"},
		{rough(), 1, "0 0 00000000 false"},
		{[]float32{2, 2, 1, 5, 3, 4, 0}, 2, "0 0 00000000 false"},
		{repeated(float32(2), 12), 2, "0 0 00000000 false"},
	}
	for _, wrong := range wrongSeries() {
		rows = append(rows, profileRow{wrong, 2, "0 0 00000000 false"})
	}
	for _, row := range rows {
		at, other, far, ok := impl.MotifOf(row.a, row.long)
		expect(t, "motif of "+shown(row.a, row.long), shown(at, other, far, ok), row.want)
	}
}

func TestDiscordOf(t *testing.T) {
	rows := []profileRow{
		{[]float32{0, 1, 2, 0, 1}, 2, "2 403504f3 true"},
		{rough(), 2, "6 34000000 true"},
		{rough(), 3, "5 3fedec28 true"},
		{rough(), 4, "4 4005960d true"},
		{wavy(), 3, "4 40167732 true"},
		{heights(), 5, "4 406bca81 true"},
		{wholeNumbers(40), 10, "13 40738504 true"},
		{wholeNumbers(impl.MaxLong), 32, "36 40ee04e1 true"},
		{shuffled(35, 89), 9, "0 00000000 true"},
		{withNumber(waves([]float32{1, 5, 2}, 30), 13, 4), 3, "11 3e212eda true"},
		// Several are greatest.
		{waves([]float32{1, 5, 2}, 15), 3, "0 00000000 true"},
		{[]float32{0, 1, 2, 0, 1, 2, 0, 1}, 2, "0 00000000 true"},
		{[]float32{4, 0, 1, 0, 1, 0, 1, 0, 1}, 2, "0 00000000 true"},
		// None.
		{rough(), 5, "0 00000000 false"},
		{rough(), 7, "0 00000000 false"},
		{rough(), 1, "0 00000000 false"},
		{[]float32{2, 2, 1, 5, 3, 4, 0}, 2, "0 00000000 false"},
		{repeated(float32(2), 12), 2, "0 00000000 false"},
	}
	for _, wrong := range wrongSeries() {
		rows = append(rows, profileRow{wrong, 2, noNearest})
	}
	for _, row := range rows {
		at, far, ok := impl.DiscordOf(row.a, row.long)
		expect(t, "discord of "+shown(row.a, row.long), shown(at, far, ok), row.want)
	}
}
