package tests

import (
	"testing"

	"loop.example/g01375/impl"
)

func TestOrderSize(t *testing.T) {
	minusZero := fromBits(negZero)
	type sizeRow struct {
		need, fix, hold float32
		want            string
	}
	rows := []sizeRow{
		{8, 4, 1, "41000000 true"},
		{1000, 50, 0.3, "4410566b true"},
		{0.1, 0.7, 0.9, "3ec9ef7f true"},
		{3.3, 1e-3, 77, "3c17afb6 true"},
		{0.3, 0.7, 3, "3ebf92a7 true"},
		{1, 1, fromBits(1), "00000000 false"},
		{fromBits(1), 1, 1, "1a800000 true"},
		{fromBits(1), 0.25, 1, "00000000 true"},
		{fromBits(3), 0.5, 3e38, "00000000 true"},
		// A hold of 0, and of less.
		{1, 1, 0, "00000000 false"},
		{1, 1, minusZero, "00000000 false"},
		{0, 0, 0, "00000000 false"},
		{1, 1, -1, "00000000 false"},
		{1, 1, -fromBits(1), "00000000 false"},
		// Needs and fixes of 0, and of less.
		{0, 4, 1, "00000000 true"},
		{8, 0, 1, "00000000 true"},
		{0, 0, 1, "00000000 true"},
		{minusZero, 4, 1, "80000000 true"},
		{8, minusZero, 1, "80000000 true"},
		{minusZero, minusZero, 1, "00000000 true"},
		{0, minusZero, 1, "80000000 true"},
		{-1, 4, 1, "00000000 false"},
		{8, -4, 1, "00000000 false"},
		{-8, -4, 1, "00000000 false"},
		{-8, 4, -1, "00000000 false"},
		{-fromBits(1), 4, 1, "00000000 false"},
		{8, -fromBits(1), 1, "00000000 false"},
		// One is less than 0, but the quotient is not.
		{-fromBits(1), 0.25, 1, "00000000 false"},
		{0.25, -fromBits(1), 1, "00000000 false"},
		{-1, 0, 1, "00000000 false"},
		{0, -1, 1, "00000000 false"},
		{0, 1, -1, "00000000 false"},
		// A product, or the quotient, is not finite, or only just is.
		{2e38, 1, 1, "00000000 false"},
		{2e38, 1e-10, 1, "00000000 false"},
		{2e38, 0, 1, "00000000 false"},
		{1.7e38, 1, 1, "5f7fe4ce true"},
		{1.7e38, 1, 0.5, "00000000 false"},
		{1e20, 1e20, 1e20, "00000000 false"},
		{1e-20, 1e-30, 1, "00000000 true"},
		{3e38, 3e38, 3e38, "00000000 false"},
		{1e38, 1.5, 3e38, "3f800000 true"},
		{1e38, 2, 3e38, "00000000 false"},
	}
	for _, x := range wrongNumbers() {
		rows = append(rows, sizeRow{x, 4, 1, noNumber}, sizeRow{8, x, 1, noNumber}, sizeRow{8, 4, x, noNumber}, sizeRow{0, x, 1, noNumber}, sizeRow{x, 0, 1, noNumber})
	}
	for _, row := range rows {
		size, ok := impl.OrderSize(row.need, row.fix, row.hold)
		expect(t, "order size of "+shown(row.need, row.fix, row.hold), shown(size, ok), row.want)
	}
}

func TestOrderPoint(t *testing.T) {
	minusZero := fromBits(negZero)
	type pointRow struct {
		list   []float32
		lead   int64
		factor float32
		want   string
	}
	rows := []pointRow{
		{[]float32{1, 3}, 4, 1, "41200000 true"},
		{[]float32{1, 3}, 1, 1, "40400000 true"},
		{[]float32{1, 2, 4}, 3, 1.65, "412907d0 true"},
		{rough(), 7, 1.65, "4243aed9 true"},
		{rough(), 5, -2.33, "c1cf7942 true"},
		{wavy(), 2, 0.1, "435aa6df true"},
		{wavy(), 10, 0.7, "44bcad5e true"},
		{heights(), 3, 1.28, "425176b0 true"},
		{tiny(), 3, 0.7, "00999996 true"},
		{[]float32{1e17, -3e16, 2.5e17}, 3, 0.7, "5ccbb560 true"},
		{wholeNumbers(impl.MaxLong), 11, 1.3, "49207617 true"},
		{wholeNumbers(impl.MaxLong + 1), 11, 1.3, "00000000 false"},
		// Leads of 0, 1, MaxReach and MaxReach + 1.
		{[]float32{1, 2, 4}, 0, 1, "00000000 false"},
		{[]float32{1, 2, 4}, 1, 0.3, "402d47aa true"},
		{[]float32{1, 2, 4}, impl.MaxReach, 0.3, "42999108 true"},
		{[]float32{1, 2, 4}, impl.MaxReach + 1, 0.3, "00000000 false"},
		// A single number, numbers that are all the same, and factors of 0.
		{[]float32{7}, 3, 5, "41a80000 true"},
		{[]float32{4, 4, 4}, 2, -5, "41000000 true"},
		{[]float32{1, 3}, 4, 0, "41000000 true"},
		{[]float32{1, 3}, 4, minusZero, "41000000 true"},
		{[]float32{minusZero}, 1, minusZero, "00000000 true"},
		{[]float32{-1, 1}, 4, -1, "c0000000 true"},
		// The mean, the spread, a product, or the sum is not finite, or only just is.
		{[]float32{3e38, 3e38}, 1, 0, "00000000 false"},
		{[]float32{2e19, -2e19}, 1, 0, "00000000 false"},
		{[]float32{1e19, -1e19}, 4, 1, "5f8ac723 true"},
		{[]float32{1e19, -1e19}, 4, 1e19, "7f167699 true"},
		{[]float32{1e19, -1e19}, 4, 3e19, "00000000 false"},
		{[]float32{1e19, -1e19}, 9, 1.2e19, "00000000 false"},
		{[]float32{3e38}, 1, 1, "7f61b1e6 true"},
		{[]float32{3e38}, 2, 1, "00000000 false"},
		{[]float32{2, 4}, 1, 3e38, "7f61b1e6 true"},
		{[]float32{2, 4}, 2, 3e38, "00000000 false"},
		{[]float32{2, 4}, 1, -3e38, "ff61b1e6 true"},
	}
	for _, wrong := range wrongSeries() {
		rows = append(rows, pointRow{wrong, 1, 1, noNumber}, pointRow{wrong, 3, 0, noNumber})
	}
	for _, far := range farInts() {
		rows = append(rows, pointRow{rough(), far, 1, noNumber})
	}
	for _, x := range wrongNumbers() {
		rows = append(rows, pointRow{rough(), 1, x, noNumber}, pointRow{[]float32{7}, 1, x, noNumber})
	}
	for _, row := range rows {
		point, ok := impl.OrderPoint(row.list, row.lead, row.factor)
		expect(t, "order point of "+shown(row.list, row.lead, row.factor), shown(point, ok), row.want)
	}
}

func TestStockLevel(t *testing.T) {
	minusZero := fromBits(negZero)
	type levelRow struct {
		list       []float32
		hold, lack float32
		want       string
	}
	rows := []levelRow{
		{[]float32{0, 4}, 1, 1, "40000000 true"},
		{[]float32{0, 4}, 1, 3, "40400000 true"},
		{[]float32{4, 0, 1}, 1, 4, "40333334 true"},
		{rough(), 0.3, 1.7, "410e999c true"},
		{rough(), 1.7, 0.3, "c087d70a true"},
		{wavy(), 3, 7, "40ed9998 true"},
		{tiny(), 0.1, 0.7, "00800000 true"},
		{steep(), 1, 5, "5f2d78ea true"},
		{wholeNumbers(impl.MaxLong), 1, 9, "47ae9a40 true"},
		{wholeNumbers(impl.MaxLong + 1), 1, 9, "00000000 false"},
		{[]float32{7}, 5, 2, "40e00000 true"},
		// One of both is 0, or both are, or one is less.
		{rough(), 0, 3, "41980000 true"},
		{rough(), 3, 0, "c1066666 true"},
		{rough(), minusZero, 3, "41980000 true"},
		{rough(), 3, minusZero, "c1066666 true"},
		{rough(), 0, 0, "00000000 false"},
		{rough(), minusZero, minusZero, "00000000 false"},
		{rough(), 0, minusZero, "00000000 false"},
		{rough(), -1, 3, "00000000 false"},
		{rough(), 3, -1, "00000000 false"},
		{rough(), -fromBits(1), 3, "00000000 false"},
		{rough(), 3, -fromBits(1), "00000000 false"},
		{rough(), -1, -1, "00000000 false"},
		{rough(), 0, fromBits(1), "41980000 true"},
		{rough(), fromBits(1), fromBits(1), "3f4ccccd true"},
		{rough(), 1e-10, 1e10, "41980000 true"},
		// The sum of both is not finite, or only just is.
		{rough(), 3e38, 3e38, "c1066666 true"},
		{rough(), 1.7e38, 1.7e38, "3f4ccccd true"},
		{rough(), 0, 3e38, "41980000 true"},
		// Between zeros of both signs, and where the numbers are too far apart.
		{[]float32{minusZero, 0}, 1, 0, "00000000 true"},
		{[]float32{minusZero, 0}, 0, 1, "00000000 true"},
		{[]float32{-3e38, 3e38}, 1, 1, "00000000 false"},
		{[]float32{-3e38, 3e38}, 0, 1, "7f61b1e6 true"},
		{[]float32{-3e38, 3e38}, 1, 0, "00000000 false"},
	}
	for _, wrong := range wrongSeries() {
		rows = append(rows, levelRow{wrong, 1, 1, noNumber}, levelRow{wrong, 0, 1, noNumber})
	}
	for _, x := range wrongNumbers() {
		rows = append(rows, levelRow{rough(), x, 1, noNumber}, levelRow{rough(), 1, x, noNumber}, levelRow{rough(), x, x, noNumber}, levelRow{[]float32{7}, 0, x, noNumber})
	}
	for _, row := range rows {
		level, ok := impl.StockLevel(row.list, row.hold, row.lack)
		expect(t, "stock level of "+shown(row.list, row.hold, row.lack), shown(level, ok), row.want)
	}
}

// noStock stands for a stock that fails.
const noStock = "[] 00000000 0 false"

type stockRow struct {
	list             []float32
	start, low, high float32
	lead             int64
	want             string
}

func stockRows() []stockRow {
	return []stockRow{
		{[]float32{2, 2, 2}, 3, 1, 4, 1, "[3f800000 40000000 00000000] 00000000 2 true"},
		{[]float32{2, 2, 2, 2, 2}, 3, 1, 4, 2, "[3f800000 00000000 3f800000 00000000 3f800000] 40000000 3 true"},
		{needs(), 2, 1, 5, 1, "[40000000 40000000 00000000 40a00000 40600000 40600000 40600000 40600000 00000000 409ccccd 409ccccd 3f666668] 40980000 3 true"},
		{needs(), 2, 1, 5, 2, "[40000000 40000000 00000000 00000000 40600000 40600000 40600000 40600000 00000000 00000000 40a00000 3f800000] 409b3333 3 true"},
		{needs(), 0, 0, 9, 3, "[00000000 00000000 00000000 41100000 40f00000 40f00000 40f00000 40f00000 3e800000 3e19999a 3e19999a 00000000] 40db3333 2 true"},
		{heights(), 20, 7.7, 31.1, 1, "[41873333 41833333 408ccccc 41bacccd 41b20000 00000000 41e73333 41e00000 41940000 41480000 41333333 00000000 41e26667 41e06667] 421e3333 3 true"},
		{heights(), 20, 7.7, 31.1, 2, "[41873333 41833333 408ccccc 00000000 41cccccd 00000000 00000000 41f1999a 41a5999a 416b3334 41566667 00000000 00000000 41f6cccd] 42296666 3 true"},
		{heights(), 20, 7.7, 31.1, 5, "[41873333 41833333 408ccccc 00000000 00000000 00000000 00000000 41ce6667 41826667 4124ccce 41100001 00000000 00000000 00000000] 42936667 2 true"},
		{heights(), 0.1, 0.3, 0.7, 3, "[00000000 00000000 00000000 00000000 00000000 00000000 00000000 00000000 00000000 00000000 00000000 00000000 00000000 00000000] 42eb0001 5 true"},
		{wholeNumbers(impl.MaxLong), 1e5, 70000, 150000, 2, "[47c35000 47b3c900 476b9800 00000000 47758f00 00000000 44ea2000 00000000 4809c580 47c21900 45e0a800 00000000 47c77c00 4777e500 462b1000 466f0800 00000000 47325200 00000000 47301e00 00000000 463cd800 00000000 473c2d00 00000000 474a7000 00000000 46bfde00 46705400 479cb900 474cc900 47223d00 47fc8b80 47cc9580 4741c200 473ba100 47a53a80 4726a700 45d43800 4785c000 00000000 47866480 00000000 4714b100 45bac000 479e3e80 46b78800 00000000 479c9f00 47805d00 00000000 00000000 00000000 47cc3400 4637d000 00000000 47c9ae00 478f6c80 47009500 00000000 47d24f00 471c8600 00000000 47992400 4720d400 00000000 4645a800 00000000 47e83200 47e19e80 47d99980 47b13400 4712fe00 470dba00 47a28680 4713d800 00000000 47681d00 00000000 47831e80 00000000 46c61400 00000000 47882a80 00000000 477c4d00 00000000 47322000 469c0e00 47bda500 474c6b00 00000000 47898580 00000000 00000000 479caf00] 49355020 36 true"},
		{wholeNumbers(impl.MaxLong), 1e5, 700000.3, 1500000.7, 17, "[47c35000 47b3c900 476b9800 00000000 00000000 00000000 00000000 00000000 00000000 00000000 00000000 00000000 00000000 00000000 00000000 00000000 00000000 49a00726 4997f12e 4990b52e 49886436 497a1eac 4971f96c 495c109c 494cf08c 4940bb5c 4933932c 49219a1c 491f5c7c 4910923c 4909c7ac 49071eec 4904ba1c 48fd76b8 48e28998 48e1c578 48c29a38 48ae2078 489c9c78 48865278 48470d70 483aa3b0 47ec8ee0 479853e0 4957d0dc 494ecf3c 4940c3ac 4929d04c 491e816c 491af92c 4902ef7c 48d5e158 48cf1218 48b8e118 488b9298 48607e70 483e5670 482135b0 47f34960 4760afc0 473bf2c0 00000000 00000000 00000000 493b4e80 492cf440 49157920 49096970 4904e750 490414e0 49031440 48fc0f20 48e221e0 48e17960 48c18580 48ab5ee0 489749c0 487b14c0 482cca00 4815e480 478a8800 46519c00 00000000 494b53dc 49386ebc 493499dc 49238d2c 4919d4fc 4913936c 490cea9c 4901fcac 48ddd778 48d08838 48a37b78 487f93b0 483b6f30] 49566b24 5 true"},
		{wholeNumbers(impl.MaxLong), 1e5, 3e6, 5e6, impl.MaxReach, "[47c35000 47b3c900 476b9800 00000000 00000000 00000000 00000000 00000000 00000000 00000000 00000000 00000000 00000000 00000000 00000000 00000000 00000000 00000000 00000000 00000000 00000000 00000000 00000000 00000000 00000000 00000000 00000000 00000000 00000000 00000000 00000000 00000000 4a953ca6 4a947cce 4a92cdfc 4a92c1ba 4a90cf06 4a8f876a 4a8e6f2a 4a8d0a8a 4a8addce 4a8a7a80 4a88579e 4a8706b2 4a860c00 4a84ebcc 4a832a5a 4a804bee 4a7dc424 4a7ce214 4a76dfa8 4a70dff4 4a70060c 4a6d3fec 4a67961c 4a642bb0 4a620930 4a603724 4a5dbe14 4a59a688 4a591394 4a54f334 4a52687c 4a507bf4 4a4e3624 4a4a9f94 4a44c0cc 4a41bce0 4a409c58 4a4067bc 4a402794 4a3ee468 4a3ba6c0 4a3b91b0 4a379334 4a34ce60 4a324bbc 4a2f13d0 4a2a2f24 4a28c0cc 4a23b6c4 4a203420 4a1d4168 4a19e724 4a152ddc 4a1438a4 4a0ff578 4a0d876c 4a0bf708 4a0a4cd4 4a079158 4a02cd1c 4a012334 49f70338 49ee16d0 49e59240] 49c2fa40 2 true"},
		{wholeNumbers(impl.MaxLong), 1e5, 3e6, 5e6, impl.MaxReach + 1, "[] 00000000 0 false"},
		{wholeNumbers(impl.MaxLong + 1), 1e5, 3e6, 5e6, 1, "[] 00000000 0 false"},
		// Many orders are on their way at once.
		{[]float32{1, 1, 1, 1, 1, 1, 1, 1, 1, 1}, 5, 4, 5, 3, "[40800000 40400000 40000000 40000000 40000000 40000000 40000000 40000000 40000000 40000000] 00000000 10 true"},
		{[]float32{1, 1, 1, 1, 1, 1, 1, 1, 1, 1}, 5, 4, 5, 6, "[40800000 40400000 40000000 3f800000 00000000 00000000 00000000 00000000 00000000 00000000] 3f800000 9 true"},
		{[]float32{0.1, 0.2, 0.3, 0.1, 0.7, 0.1, 0.1, 0.3}, 1.3, 1.2, 1.3, 4, "[3f999999 3f7fffff 3f333332 3f199998 00000000 3dccccd3 3e99999a 3dccccd0] 33800000 8 true"},
		{[]float32{1e8, 1, 1e8, 1, 3, 1e8, 7}, 2e8, 2e8, 2.5e8, 3, "[4cbebc20 4cbebc20 00000000 4d0f0d18 4d0f0d18 4d0f0d18 4d0f0d18] 00000000 3 true"},
		// Their sum is made in order, and without the stock.
		{[]float32{0.1, 1.9, 2.2, 1.9, 1.7, 1.3, 0.7, 0.6}, 8.2, 21.9, 22.9, 4, "[41019999 40c66665 407ffffd 40066664 41733333 417ccccb 418a6664 4194ccca] 00000000 7 true"},
		{[]float32{2.2, 1.2, 2.2, 1.3, 0.9, 2.2, 1.7, 1.2}, 7, 19.8, 20.3, 4, "[4099999a 40666667 3fb33334 3dcccce0 416b3333 415b3334 41633333 4164cccc] 00000000 8 true"},
		{[]float32{0.9, 1.6, 2.5, 0.5, 2.3, 1.3, 1.1, 2.5, 1.8}, 6.6, 20, 20.5, 5, "[40b66666 40833333 3fcccccc 3f8ccccc 00000000 41580000 41600000 415ffffe 414b3331] 3f99999a 9 true"},
		// Needs that are greater than the stock, as great, and 0.
		{[]float32{5}, 3, 1, 9, 1, "[00000000] 40000000 1 true"},
		{[]float32{3}, 3, 1, 9, 1, "[00000000] 00000000 1 true"},
		{[]float32{3}, fromBits(0x40400001), 1, 9, 1, "[34800000] 00000000 1 true"},
		{[]float32{0}, 3, 1, 9, 1, "[40400000] 00000000 0 true"},
		{[]float32{0, 0}, 0, 1, 9, 1, "[00000000 41100000] 00000000 1 true"},
		{[]float32{5, 5, 5, 5}, 0, 0, 3, 1, "[00000000 00000000 00000000 00000000] 41300000 4 true"},
		{[]float32{0.7, 0.9}, 0.1, 0, 0.3, 1, "[00000000 00000000] 3f999999 2 true"},
		// Needs that are less than 0.
		{[]float32{-1}, 3, 1, 9, 1, "[] 00000000 0 false"},
		{[]float32{1, -1, 1}, 3, 1, 9, 1, "[] 00000000 0 false"},
		{[]float32{1, -fromBits(1)}, 3, 1, 9, 1, "[] 00000000 0 false"},
		// What is left is as great as low, or just greater.
		{[]float32{2}, 3, 1, 9, 1, "[3f800000] 00000000 1 true"},
		{[]float32{2}, 3, fromBits(0x3f7fffff), 9, 1, "[3f800000] 00000000 0 true"},
		{[]float32{2, 0, 0}, 3, 1, 9, 2, "[3f800000 3f800000 41100000] 00000000 1 true"},
		{[]float32{1, 1, 1}, 3, 2, 3, 9, "[40000000 3f800000 00000000] 00000000 3 true"},
		{[]float32{1, 1, 1}, 3, 2.5, 3, 9, "[40000000 3f800000 00000000] 00000000 3 true"},
	}
}

// stockRowsAtLimits are rows with lows and leads at their limits, with zeros of
// both signs, and with numbers that are too great.
func stockRowsAtLimits() []stockRow {
	minusZero := fromBits(negZero)
	return []stockRow{
		// A low of 0, and one that is as great as high, or greater.
		{[]float32{1, 1, 1}, 3, 0, 3, 1, "[40000000 3f800000 00000000] 00000000 1 true"},
		{[]float32{1, 1, 1}, 3, 0, fromBits(1), 1, "[40000000 3f800000 00000000] 00000000 1 true"},
		{[]float32{1, 1, 1}, 3, minusZero, 3, 1, "[40000000 3f800000 00000000] 00000000 1 true"},
		{[]float32{1, 1, 1}, 3, 3, 3, 1, "[] 00000000 0 false"},
		{[]float32{1, 1, 1}, 3, 3, fromBits(0x40400001), 1, "[40000000 40000001 40000001] 00000000 3 true"},
		{[]float32{1, 1, 1}, 3, 4, 3, 1, "[] 00000000 0 false"},
		{[]float32{1, 1, 1}, 3, 0, 0, 1, "[] 00000000 0 false"},
		{[]float32{1, 1, 1}, 3, 0, minusZero, 1, "[] 00000000 0 false"},
		{[]float32{1, 1, 1}, 3, minusZero, 0, 1, "[] 00000000 0 false"},
		{[]float32{1, 1, 1}, 3, -1, 3, 1, "[] 00000000 0 false"},
		{[]float32{1, 1, 1}, 3, -fromBits(1), 3, 1, "[] 00000000 0 false"},
		{[]float32{1, 1, 1}, 3, -5, -1, 1, "[] 00000000 0 false"},
		{[]float32{1, 1, 1}, -1, 1, 3, 1, "[] 00000000 0 false"},
		{[]float32{1, 1, 1}, -fromBits(1), 1, 3, 1, "[] 00000000 0 false"},
		{[]float32{1, 1, 1}, 0, 1, 3, 1, "[00000000 40000000 3f800000] 3f800000 2 true"},
		{[]float32{1, 1, 1}, 100, 1, 3, 1, "[42c60000 42c40000 42c20000] 00000000 0 true"},
		// Leads of 0, of 1, and such that orders come behind the last need.
		{[]float32{2, 2, 2}, 3, 1, 4, 0, "[] 00000000 0 false"},
		{[]float32{2, 2, 2}, 3, 1, 4, 2, "[3f800000 00000000 3f800000] 3f800000 2 true"},
		{[]float32{2, 2, 2}, 3, 1, 4, 3, "[3f800000 00000000 00000000] 40400000 1 true"},
		{[]float32{2, 2, 2}, 3, 1, 4, impl.MaxReach, "[3f800000 00000000 00000000] 40400000 1 true"},
		{[]float32{2, 2, 2}, 3, 1, 4, impl.MaxReach + 1, "[] 00000000 0 false"},
		{[]float32{7}, 3, 1, 4, 1, "[00000000] 40800000 1 true"},
		// Zeros of both signs.
		{[]float32{minusZero}, 3, 1, 4, 1, "[40400000] 00000000 0 true"},
		{[]float32{minusZero}, 0, 1, 4, 1, "[00000000] 00000000 1 true"},
		{[]float32{5, 0}, minusZero, 1, 4, 1, "[00000000 40800000] 40a00000 1 true"},
		{[]float32{minusZero, 0}, minusZero, 1, 4, 2, "[00000000 00000000] 00000000 1 true"},
		{[]float32{0, minusZero}, minusZero, 1, 4, 2, "[00000000 00000000] 00000000 1 true"},
		// What is lacking is not finite, or only just is.
		{[]float32{3e38, 3e38}, 0, 0, 1, 1, "[] 00000000 0 false"},
		{[]float32{3e38, 3e37}, 0, 0, 1, 1, "[00000000 00000000] 7f7843b0 2 true"},
		{[]float32{3e38, 3e38}, 0, 0, 3e38, 1, "[00000000 00000000] 7f61b1e6 2 true"},
		{[]float32{3e38, 3e38}, 3e38, 0, 3e38, 1, "[00000000 00000000] 00000000 2 true"},
		{[]float32{1, 3e38}, 3e38, 3e38, 3.4e38, 1, "[7f61b1e6 7df0bdc0] 00000000 2 true"},
		{[]float32{1e38, 1e38, 1e38, 1e38}, 3.4e38, 3.3e38, 3.4e38, 2, "[7f348e52 7ed2a60b 7ed2a60b 7ed2a60b] 00000000 4 true"},
		{[]float32{fromBits(3), fromBits(1), 0, fromBits(2)}, fromBits(4), fromBits(1), fromBits(2), 1, "[00000001 00000001 00000002 00000000] 00000000 3 true"},
	}
}

func TestRunStock(t *testing.T) {
	rows := append(stockRows(), stockRowsAtLimits()...)
	for _, wrong := range wrongSeries() {
		rows = append(rows, stockRow{wrong, 3, 1, 4, 1, noStock}, stockRow{wrong, 0, 0, 1, impl.MaxReach, noStock})
	}
	for _, far := range farInts() {
		rows = append(rows, stockRow{[]float32{2, 2, 2}, 3, 1, 4, far, noStock})
	}
	for _, x := range wrongNumbers() {
		rows = append(rows, stockRow{[]float32{2, 2}, x, 1, 4, 1, noStock}, stockRow{[]float32{2, 2}, 3, x, 4, 1, noStock}, stockRow{[]float32{2, 2}, 3, 1, x, 1, noStock})
	}
	for _, row := range rows {
		stocks, lacking, orders, ok := impl.RunStock(row.list, row.start, row.low, row.high, row.lead)
		what := "stock for " + shown(row.list, row.start, row.low, row.high, row.lead)
		expect(t, what, shown(stocks, lacking, orders, ok), row.want)
	}
}
