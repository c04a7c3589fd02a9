package tests

import (
	"math"
	"testing"

	"loop.example/g01375/impl"
)

func needs() []float32 { return []float32{0, 0, 3, 0, 1.5, 0, 0, 0, 7.25, 0.1, 0, 4} }

func heights() []float32 {
	return []float32{3.1, 0.5, 12, 7.75, 1.1, 40, 2.2, 0.9, 9.5, 6, 1.3, 33, 2.8, 0.25}
}

type shareRow struct {
	list  []float32
	share float32
	want  string
}

func TestSimpleLevels(t *testing.T) {
	minusZero := fromBits(negZero)
	rows := []shareRow{
		{[]float32{2, 4, 4}, 0.5, "[40000000 40400000 40600000] true"}, {[]float32{2, 4, 5}, 0, "[40000000 40000000 40000000] true"}, {[]float32{2, 4, 5}, 1, "[40000000 40800000 40a00000] true"}, {[]float32{2, 4, 5}, minusZero, "[40000000 40000000 40000000] true"}, {[]float32{7}, 0.3, "[40e00000] true"}, {[]float32{minusZero}, 0.3, "[80000000] true"},
		{[]float32{minusZero, minusZero, 0}, 0, "[80000000 00000000 00000000] true"}, {[]float32{minusZero, minusZero, minusZero}, minusZero, "[80000000 80000000 80000000] true"}, {wavy(), 0.3, "[40466666 3fae1479 405b53f8 401f4a23 4396df02 4345162a 430b9c50 42c37f30 42905908 4246207c 428148cf 423632bb] true"}, {rough(), 0.9, "[3f000000 40d26666 c0140000 41291999 3f886e98 c0ee825a 3f9e0948 4189c9a8 3f8bd200 40a1e540 3fbf7a6c c0a80357] true"}, {tiny(), 0.5, "[00000001 00400000 001ffffe 00500000 0027ffff] true"}, {steep(), 0.1, "[5f0ac723 5ef17938 5f0f5b88 5f01fe45 5ece3b75 5eb99be9] true"}, {wholeNumbers(impl.MaxLong), 0.77, "[00000000 45bf4c00 46c9ec69 476ddee8 47076514 47a324eb 47a5c092 47aad382 46c79074 4714602c 479bb4f2 47779f0c 47334bb1 471d90ae 47423072 4791efb2 47167276 47973a2e 47866647 4770142b 478210d0 47a9850c 473254ec 479b785f 4780edfe 4751b511 475253a3 4786e690 46b351ec 474ad5c8 47025205 467af06c 462faeb2 46a7ec54 47392d4e 463d3d68 474ae1ca 472ccadf 4713a376 472b41ea 477dbb61 46c12e6a 4768c407 47374044 470aaa5a 470ed9ec 474de46a 47a50dc7 47573d99 46ba0b75 479ec54b 47b85424 46fd79ee 4725d94d 479e9df8 47714a42 4720b2ae 46fd5960 4716ffeb 476c61f8 46a55020 475e5cf9 4730682a 470762c7 470f233d 4751beb4 47a8c36c 476239e2 46d72607 460b7a42 45a2f5d7 4685ca98 472f1847 46314e2c 474f05f7 47381095 47260b10 4744cb7e 478f337a 470864c8 478bd9cc 476d51d6 4747ddec 47532f7e 478cadfe 46dfd5a2 476bcaa3 472df9e0 46ea2dec 46d9f310 471fb706 4787d095 47107636 479b5dd3 4791abdd 478a71a9] true"},
		{[]float32{1e8, 1, 1e8}, 1, "[4cbebc20 00000000 4cbebc20] true"}, {[]float32{0.1, 0.30000001}, fromBits(1), "[3dcccccd 3dcccccd] true"}, {[]float32{3e38, 1e38, -4e37}, 0.9, "[7f61b1e6 7eb48e50 fd9071d8] true"},
		// A way is not finite, even where none of it is gone.
		{[]float32{3e38, -3e38}, 0.1, noNumbers}, {[]float32{3e38, -3e38}, 0, noNumbers}, {[]float32{1, 3e38, -3e38}, 1, noNumbers}, {[]float32{3e38, 1, -3e38}, 1, "[7f61b1e6 00000000 ff61b1e6] true"},
	}
	for _, row := range rows {
		levels, ok := impl.SimpleLevels(row.list, row.share)
		expect(t, "levels of "+shown(row.list, row.share), shown(levels, ok), row.want)
	}
}

func TestDoubleLine(t *testing.T) {
	minusZero := fromBits(negZero)
	rows := []shareRow{
		{[]float32{2, 4}, 0.5, "40600000 3f000000 true"}, {[]float32{2, 4, 9}, 0, "40000000 00000000 true"}, {[]float32{2, 4, 9}, minusZero, "40000000 80000000 true"}, {[]float32{7}, 0.3, "40e00000 00000000 true"}, {[]float32{minusZero}, 0.3, "00000000 00000000 true"}, {[]float32{minusZero}, minusZero, "00000000 80000000 true"}, {[]float32{2, 4, 9}, fromBits(0x3f7fffff), "41100000 00000000 true"},
		{wavy(), 0.3, "41a4061c c12bbf73 true"}, {rough(), 0.9, "c0bea930 c0cbd49e true"}, {rough(), 0.1, "3feb467a 3cc4489d true"}, {tiny(), 0.5, "001fffff 80080000 true"}, {steep(), 0.1, "5e60cc30 dc8226ca true"}, {wholeNumbers(impl.MaxLong), 0.77, "4789244b c50b81c5 true"}, {[]float32{1e8, 1, 1e8}, 0.7, "4ca6b3c8 4b958940 true"},
		// Levels, twice a level, or the slope alone is not finite, or only just is.
		{[]float32{fromBits(0xfef743f8), fromBits(0x7effe03a), fromBits(0x7ec430c0), fromBits(0xfefd85e7)}, fromBits(0x3f7ffffc), noLine},
		{[]float32{3e38, -3e38}, 0.1, noLine}, {[]float32{2e38, 2e38}, 0.5, noLine}, {[]float32{1e38, 1e38}, 0.5, "7e967699 00000000 true"}, {[]float32{-1e38, 1.6e38}, 0.99, "7ef0b3bf 7f3fb5c1 true"}, {[]float32{-1e34, 1e34}, fromBits(0x3f7fffff), "77f684df 787fffff true"}, {[]float32{-1e30, 1e30}, fromBits(0x3f7fffff), "7149f2ca 71ffffff true"},
		{[]float32{1}, 1, noLine}, {[]float32{2, 4, 9}, 1, noLine},
	}
	for _, row := range rows {
		level, slope, ok := impl.DoubleLine(row.list, row.share)
		expect(t, "line of "+shown(row.list, row.share), shown(level, slope, ok), row.want)
	}
}

func TestSeldomNeeds(t *testing.T) {
	minusZero := fromBits(negZero)
	rows := []shareRow{
		{[]float32{0, 2, 0, 2}, 0.5, "3f800000 true"}, {[]float32{2, 0, 0, 4}, 0.5, "3fc00000 true"}, {[]float32{0, 0, 5, 0}, 0.5, "3fd55555 true"}, {[]float32{7}, 0.5, "40e00000 true"}, {[]float32{0, 0, 7, 1}, 0, "40155555 true"}, {[]float32{0, 0, 7, 1}, 1, "3f800000 true"}, {[]float32{0, 0, 7, 1}, minusZero, "40155555 true"},
		{needs(), 0.1, "3f903981 true"}, {needs(), 0.5, "3fc75ea5 true"}, {needs(), 0.9, "3ff407cf true"}, {heights(), 0.3, "40f09cbb true"}, {[]float32{minusZero, 3, minusZero, 1}, 0.3, "3f99999a true"}, {append(make([]float32, impl.MaxLong-1), 5), 0.3, "3d555555 true"}, {wholeNumbers(impl.MaxLong), 0.77, "478a71a9 true"},
		{[]float32{0, fromBits(1), 0, fromBits(9)}, 0.5, "00000002 true"}, {[]float32{3e38, 0, 1, 3e38}, 0.9, "7f3c6c98 true"}, {[]float32{0, 3.4e38, 3.4e38, 0}, 0.3, "7f167699 true"},
		{[]float32{0, 0}, 0.5, noNumber}, {[]float32{0}, 0.5, noNumber}, {[]float32{minusZero, 0}, 0.5, noNumber}, {make([]float32, impl.MaxLong), 0.5, noNumber}, {[]float32{1, -1}, 0.5, noNumber}, {[]float32{-1, 1}, 0.5, noNumber}, {[]float32{1, -fromBits(1), 1}, 0.5, noNumber}, {[]float32{-1}, 0.5, noNumber},
	}
	for _, row := range rows {
		rate, ok := impl.SeldomNeeds(row.list, row.share)
		expect(t, "seldom needs of "+shown(row.list, row.share), shown(rate, ok), row.want)
	}
}

func TestChanceNeeds(t *testing.T) {
	minusZero := fromBits(negZero)
	rows := []struct {
		list          []float32
		share, chance float32
		want          string
	}{
		{[]float32{2, 0}, 0.5, 0.5, "3f800000 true"}, {[]float32{0, 2, 0, 2}, 0.5, 0.25, "3f880000 true"}, {[]float32{0, 2, 0, 4}, 0.25, 0.5, "3fc80000 true"}, {[]float32{0, 0, 5}, 0.5, 0.5, "3fd55556 true"}, {[]float32{7}, 0.5, 0.5, "40e00000 true"}, {[]float32{0, 7, 1, 0, 0}, 0, 1, "00000000 true"}, {[]float32{0, 7, 1, 0, 2}, 1, 0, "3f800000 true"}, {[]float32{0, 7, 1, 0, 2}, 0, 1, "40e00000 true"},
		{[]float32{0, 7, 1, 0}, minusZero, minusZero, "40600000 true"}, {needs(), 0.1, 0.3, "3fe7606b true"}, {needs(), 0.9, 0.3, "400a5852 true"}, {needs(), 0.3, 0.9, "40381987 true"}, {heights(), 0.3, 0.7, "40f09cbb true"}, {[]float32{minusZero, 3, minusZero, 1, minusZero}, 0.3, 0.1, "3f8b9f56 true"},
		{append(make([]float32, impl.MaxLong-1), 5), 0.3, 0.4, "3d555556 true"}, {append([]float32{5}, make([]float32, impl.MaxLong-1)...), 0.3, 0.4, "1d9eb43c true"}, {wholeNumbers(impl.MaxLong), 0.77, 0.1, "478a70c6 true"}, {[]float32{0, fromBits(1), 0, fromBits(9)}, 0.5, 0.5, "00000003 true"}, {[]float32{3e38, 0, 1, 3e38}, 0.9, 0.9, "7f4b88b0 true"}, {[]float32{0, 3.4e38, 3.4e38, 0}, 0.3, 0.3, "7ee8c445 true"},
		{[]float32{0, 0}, 0.5, 0.5, noNumber}, {[]float32{0}, 0.5, 0.5, noNumber}, {[]float32{minusZero, 0}, 0.5, 0.5, noNumber}, {make([]float32, impl.MaxLong), 0.5, 0.5, noNumber}, {[]float32{1, -1}, 0.5, 0.5, noNumber}, {[]float32{-1, 1}, 0.5, 0.5, noNumber}, {[]float32{1, -fromBits(1), 1}, 0.5, 0.5, noNumber}, {[]float32{-1}, 0.5, 0.5, noNumber},
	}
	for _, row := range rows {
		rate, ok := impl.ChanceNeeds(row.list, row.share, row.chance)
		expect(t, "needs by chance of "+shown(row.list, row.share, row.chance), shown(rate, ok), row.want)
	}
}

func TestTimesSeason(t *testing.T) {
	minusZero := fromBits(negZero)
	rows := []struct {
		list   []float32
		period int64
		share  float32
		want   string
	}{
		{[]float32{2, 6, 2}, 2, 0.5, "[3f000000 3fc00000] 40800000 true"}, {[]float32{2, 6}, 2, 0.5, "[3f000000 3fc00000] 40800000 true"}, {[]float32{2, 6, 4, 12}, 2, 0.5, "[3f155556 3fcdb6dc] 40e00000 true"}, {[]float32{7}, 1, 0.5, "[3f800000] 40e00000 true"}, {[]float32{7, 9, 4}, 1, 0.25, "[3f708571] 40d279e8 true"}, {[]float32{2, 6, 4, 8, 3}, 2, 0, "[3f000000 3fc00000] 40800000 true"}, {[]float32{2, 6, 4, 8, 3}, 2, 1, "[3f000000 3fc00000] 40c00000 true"}, {[]float32{2, 6, 4, 8, 3}, 2, minusZero, "[3f000000 3fc00000] 40800000 true"},
		{heights(), 1, 0.3, "[3ee25435] 41419196 true"}, {heights(), 3, 0.3, "[3f08c188 3dba664f 401fa068] 40de7867 true"}, {heights(), 6, 0.1, "[3e8ed70f 3d41dfec 3f8bb600 3f347f6f 3dd50be6 406a23a7] 4121b242 true"}, {heights(), 6, 0.9, "[3e8fa28a 3d3982c7 3f81d41e 3f366bb5 3dd848b1 40666266] 40b255ba true"}, {heights(), 7, 0.5, "[3e71b62e 3d9dc9d6 3f30f2c1 3edd7d6e 3e27cd60 400794c0 3df31205] 421e563e true"}, {heights(), 13, 0.5, "[3e455d17 3d5d96f5 3fa63138 3f56aa3e 3df3bfa8 408a7e59 3e73bfa8 3dc76e43 3f8391a2 3f263138 3e100885 406483ad 3e9b1cdf] 409fcd6f true"}, {heights(), 14, 0.5, "[3eb88ee1 3d6e23b8 3fb29aca 3f66b29a 3e02fa0c 4094d653 3e82fa0c 3dd65358 3f8d6535 3f329aca 3e1aca6a 407594d6 3ea6b29a 3cee23b8] 4109999a true"},
		{append(wholeNumbers(impl.MaxLong)[1:], 5), impl.MaxPeriod, 0.3, "[3e25b1e2 3f5bf630 3f81715f 3ebfd973 3f8ad23b 3f9b8e42 3f5ef144 3e8c680c 3efe89de 3f74c000 3f2d790a 3f2c42e7 3f1873d1 3f4b93ee 3f6ce6fd 3f109f63 3f714665 3f96a4b3 3f8586f4 3f3ec853 3f922ed0 3f22201c 3f9e5c2b 3f57af7a] 474c62de true"}, {append(wholeNumbers(impl.MaxPeriod)[1:], 5), impl.MaxPeriod, 0.3, "[3e10cc15 3f1083d0 3fa27930 3ef449d2 3fdf6782 3fc21e8b 3fc8e478 3e006309 3f3de026 3fd1e2a7 3f853738 3f393558 3f301a04 3f6f1c76 3fbb1e56 3efc41bb 3fcabe4f 3f96ce2d 3f86eced 3f9b1a90 3fd35715 3f17eb2e 3fcc4fe2 38ba818e] 475b9e15 true"}, {append(wholeNumbers(impl.MaxPeriod)[1:], 5, 5), impl.MaxPeriod, 0.3, "[3dcacb4b 3f1083d0 3fa27930 3ef449d2 3fdf6782 3fc21e8b 3fc8e478 3e006309 3f3de026 3fd1e2a7 3f853738 3f393558 3f301a04 3f6f1c76 3fbb1e56 3efc41bb 3fcabe4f 3f96ce2d 3f86eced 3f9b1a90 3fd35715 3f17eb2e 3fcc4fe2 38ba818e] 4719c610 true"},
		{[]float32{fromBits(1), fromBits(2), fromBits(3)}, 2, 0.5, "[3f200000 3f800000] 00000004 true"}, {[]float32{1e-20, 1e20, 1e-20}, 1, 0.5, "[3f400000] 5fad78ec true"},
		// A factor is told as 0, and nothing can be divided by it.
		{[]float32{fromBits(1), 3e38}, 2, 0.5, "[00000000 40000000] 7ee1b1e6 true"}, {[]float32{fromBits(1), 3e38, 1}, 2, 0.5, noFold}, {[]float32{fromBits(1), 3e38, 1}, 2, 0, noFold}, {[]float32{1, 3e38, fromBits(1), 1}, 2, 1, noFold},
		// The level, or a factor, is not finite, or only just is.
		{[]float32{3e38, 3e38}, 2, 0.5, noFold}, {[]float32{3e38, 3e38}, 1, 0.5, "[3f800000] 7f61b1e6 true"}, {[]float32{1e-10, 1e10, 3e38, 1}, 2, 0.5, noFold}, {[]float32{1e-38, 1e10}, 1, 0, noFold}, {[]float32{1e-38, 1e10}, 1, 1, "[3f800000] 501502f9 true"}, {[]float32{1, fromBits(1), 3e38, 1}, 2, 0, noFold},
		{[]float32{1, 0}, 1, 0.5, noFold}, {[]float32{0, 1}, 2, 0.5, noFold}, {[]float32{1, minusZero}, 1, 0.5, noFold}, {[]float32{1, 2, -1}, 2, 0.5, noFold}, {[]float32{-fromBits(1)}, 1, 0.5, noFold},
		{[]float32{1, 2}, 3, 0.5, noFold}, {[]float32{1, 2}, 0, 0.5, noFold}, {[]float32{1, 2}, -1, 0.5, noFold}, {[]float32{1, 2}, math.MaxInt64, 0.5, noFold}, {[]float32{1, 2}, math.MinInt64, 0.5, noFold}, {repeated(float32(2), impl.MaxLong), impl.MaxPeriod + 1, 0.5, noFold}, {repeated(float32(2), impl.MaxPeriod-1), impl.MaxPeriod, 0.5, noFold},
	}
	for _, row := range rows {
		factors, level, ok := impl.TimesSeason(row.list, row.period, row.share)
		expect(t, "season of "+shown(row.list, row.period, row.share), shown(factors, level, ok), row.want)
	}
}

func TestWrongShareNumbers(t *testing.T) {
	list := []float32{1, 2, 3}
	for _, share := range wrongShareNumbers() {
		levels, ok := impl.SimpleLevels(list, share)
		expect(t, "levels with "+shown(share), shown(levels, ok), noNumbers)
		level, slope, ok := impl.DoubleLine(list, share)
		expect(t, "line with "+shown(share), shown(level, slope, ok), noLine)
		rate, ok := impl.SeldomNeeds(list, share)
		expect(t, "seldom needs with "+shown(share), shown(rate, ok), noNumber)
		rate, ok = impl.ChanceNeeds(list, share, 0.5)
		expect(t, "needs by chance with the share "+shown(share), shown(rate, ok), noNumber)
		rate, ok = impl.ChanceNeeds(list, 0.5, share)
		expect(t, "needs by the chance "+shown(share), shown(rate, ok), noNumber)
		for period := int64(1); period <= 3; period++ {
			factors, level, ok := impl.TimesSeason(list, period, share)
			expect(t, "season with "+shown(share), shown(factors, level, ok), noFold)
		}
	}
}
