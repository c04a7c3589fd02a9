package tests

import (
	"math"
	"testing"

	"loop.example/g01375/impl"
)

// linesOf tells a line for each two numbers.
func linesOf(parts ...float32) []complex64 {
	lines := make([]complex64, len(parts)/2)
	for i := range lines {
		lines[i] = complex(parts[2*i], parts[2*i+1])
	}
	return lines
}

func TestLinesOf(t *testing.T) {
	rows := []struct {
		list []float32
		want string
	}{
		{[]float32{3}, "[40400000+00000000i] true"}, {[]float32{fromBits(negZero)}, "[00000000+00000000i] true"}, {[]float32{1, 5}, "[40c00000+00000000i c0800000+00000000i] true"}, {[]float32{1, 5, 2}, "[41000000+00000000i c0200000+c02646e0i] true"},
		{[]float32{1, 0, 0, 0}, "[3f800000+00000000i 3f800000+00000000i 3f800000+00000000i] true"}, {[]float32{0, 1, 0, 0}, "[3f800000+00000000i 00000000+bf800000i bf800000+00000000i] true"}, {[]float32{0, -1, 0, 0, 0}, "[bf800000+00000000i be9e377a+3f737871i 3f4f1bbd+3f167918i] true"},
		{repeated(float32(2), 6), "[41400000+00000000i 00000000+00000000i 00000000+00000000i 00000000+00000000i] true"}, {repeated(float32(0.1), 7), "[3f333334+00000000i 32000000+b2800000i 32400000+00000000i 32000000+00000000i] true"}, {repeated(fromBits(negZero), 3), "[00000000+00000000i 00000000+00000000i] true"},
		{wavy(), "[4486b052+00000000i c3cfa79a+c43c7f4ai c40f4615+44603aa8i 44617ccc+4259eb85i c40496b8+c4730e78i c3f6eb98+44476acei 44939faf+00000000i] true"}, {wavy()[:11], "[44869052+00000000i c404782a+c42af578i c3155fc4+44824f14i 44569958+c3cb90bei c4806ab3+c36a001ai 43a37e16+447b80d8i] true"}, {rough(), "[41e947ae+00000000i c128d661+4071520ei c0edc291+c1f63a74i be428f64+41a53334i 417b851f+c21e846di 40b48e06+c027b879i c1ec51ec+00000000i] true"}, {steep(), "[5f9d834e+00000000i 5c853a00+dfc04bd8i 5e827382+5fe45a10i 5fbd6e8a+00000000i] true"}, {tiny(), "[00fffffc+00000000i 803fffff+802e7fabi 803ffffd+80c4f8c8i] true"},
		{wholeNumbers(20), "[49820988+00000000i c7adbbd7+c62b06b6i c8147443+47ccc256i c7b2f42e+480d5722i 470239ee+c715273ai c85c6780+47a43080i 47055c10+46c15928i 462a336c+c6ae6a66i 47e12e0a+47789a9ai c7800fe9+c6ed83f7i c8481440+00000000i] true"}, {[]float32{2e38, -1e38, 3e37}, "[7ec39a2e+00000000i 7f30cb5a+7ea96582i] true"},
		{[]float32{3e38, 3e38}, "[] false"}, {[]float32{3e38, -3e38}, "[] false"}, {[]float32{0, 3e38, 0, -3e38}, "[] false"},
	}
	for _, row := range rows {
		lines, ok := impl.LinesOf(row.list)
		expect(t, "lines of "+shown(row.list), shown(lines, ok), row.want)
	}
	lines, ok := impl.LinesOf(wholeNumbers(impl.MaxLong))
	if len(lines) != 49 || !ok {
		t.Fatalf("lines of a long series: got %s", shown(lines, ok))
	}
	expect(t, "some lines of a long series", shown(lines[0], lines[1], lines[31], lines[48], ok),
		"4a8ff080+00000000i 4831c40c+c8315c67i 47809700+471607d9i c7d8e400+00000000i true")
}

func TestBackOfLines(t *testing.T) {
	minusZero, inf, nan := fromBits(negZero), fromBits(infBits), fromBits(nanBits)
	rows := []struct {
		lines []complex64
		long  int64
		want  string
	}{
		{linesOf(3, 0), 1, "[40400000] true"}, {linesOf(3, 5), 1, "[40400000] true"}, {linesOf(minusZero, minusZero), 1, "[00000000] true"},
		{linesOf(6, 0, -4, 0), 2, "[3f800000 40a00000] true"}, {linesOf(6, 1, -4, 2), 2, "[3f800000 40a00000] true"},
		{linesOf(6, 0, -4, 1), 3, "[bf2aaaab 40306207 407a48a4] true"}, {linesOf(0.1, 0.2, 0.3, 0.4, 0.5, 0.6), 4, "[3e99999a be99999a 00000000 3dccccce] true"},
		{linesOf(0.1, 0.2, 0.3, 0.4, 0.5, 0.6), 5, "[3eae147b becbc144 3df39133 be191302 3e410a62] true"},
		{linesOf(wavy()...), 10, "[43578ccd 42719588 c3123fd2 c32f4a42 426ec10e 433e11eb 429cf770 c3255f1e c31bf8f4 42272eb4] true"}, {linesOf(wavy()...), 11, "[434d0950 4284555f c2c4769c c33a3887 c1e47e97 43101ed9 431ae236 c142d8bd c335af01 c2dc30ad 4247745d] true"}, {linesOf(rough()...), 10, "[be4ac082 c096109a 3fc51b22 bfd053b8 c0a1070e 3cb4394d 40dd6e43 4022688e c01b7cbe 405d46dd] true"},
		{linesOf(steep()...), 5, "[5ede0b6d 5edfb556 decfe976 dec6c6a4 5eee7da0] true"}, {linesOf(tiny()[:4]...), 3, "[80000002 8049e69c 0049e69f] true"},
		{linesOf(3e38, 0), 1, sure(3e38)}, {linesOf(1, 3e38), 1, sure(1)},
		// A line times 2, or the sum, is not finite.
		{linesOf(0, 0, 2e38, 0), 3, "[] false"}, {linesOf(2e38, 0, 2e38, 0), 2, "[] false"}, {linesOf(0, 0, 0, 2e38), 5, "[] false"},
		{linesOf(3, 0), 0, "[] false"}, {nil, 0, "[] false"}, {nil, 1, "[] false"}, {linesOf(3, 0, 3, 0), 1, "[] false"}, {linesOf(3, 0), 2, "[] false"},
		{linesOf(1, 0, 2, 0, 3, 0), 2, "[] false"}, {linesOf(1, 0, 2, 0, 3, 0), 3, "[] false"}, {linesOf(1, 0, 2, 0, 3, 0), 6, "[] false"},
		{linesOf(3, 0), -1, "[] false"}, {nil, -1, "[] false"}, {nil, -2, "[] false"}, {linesOf(3, 0), math.MaxInt64, "[] false"}, {linesOf(3, 0), math.MinInt64, "[] false"},
		{linesOf(inf, 0), 1, "[] false"}, {linesOf(1, inf), 1, "[] false"}, {linesOf(1, -inf), 1, "[] false"}, {linesOf(nan, 0), 1, "[] false"},
		{linesOf(1, nan), 1, "[] false"}, {linesOf(1, 0, 0, nan), 2, "[] false"}, {linesOf(1, 0, 0, inf, 1, 0), 4, "[] false"},
	}
	for _, row := range rows {
		list, ok := impl.BackOfLines(row.lines, row.long)
		expect(t, "back of "+shown(row.lines, row.long), shown(list, ok), row.want)
	}
	for long := int64(1); long <= impl.MaxLong+3; long++ {
		for _, more := range []int64{-1, 0, 1} {
			count := long/2 + 1 + more
			list, ok := impl.BackOfLines(make([]complex64, count), long)
			want := noNumbers
			if more == 0 && long <= impl.MaxLong {
				want = shown(make([]float32, long), true)
			}
			expect(t, "back of "+shown(count)+" zeros "+shown(long), shown(list, ok), want)
		}
	}
}

// TestSinglePoints shows each point of the circle on its own, also those at
// which a quotient that is rounded too early misses a zero.
func TestSinglePoints(t *testing.T) {
	for _, long := range []int{1, 2, 5, 22, 26, 44} {
		for place := range long {
			list := make([]float32, long)
			list[place] = 1
			lines, _ := impl.LinesOf(list)
			for k, line := range lines {
				point := impl.PhasorOf(-(float64(k*place) / float64(long)))
				// A sum from 0 on has no zero with a sign.
				expect(t, "line of one place "+shown(long, place, k), shown(line), shown(complex(real(point)+0, imag(point)+0)))
				expect(t, "one line at a place "+shown(long, place, k), shown(oneLineAt(k, place, long)), shown(partAt(k, place, long)))
			}
		}
	}
}

// oneLineAt returns what leads back to a place from a line of 1, where all
// others are 0.
func oneLineAt(k, place, long int) float32 {
	lines := make([]complex64, long/2+1)
	lines[k] = 1
	list, _ := impl.BackOfLines(lines, int64(long))
	return list[place]
}

func partAt(k, place, long int) float32 {
	part := real(impl.PhasorOf(float64(k*place) / float64(long)))
	if k > 0 && 2*k < long {
		part *= 2
	}
	return part / float32(long)
}

func TestLinePowers(t *testing.T) {
	rows := []struct {
		list []float32
		want string
	}{
		{[]float32{3}, "[41100000] true"}, {[]float32{1, 5}, "[41900000 41000000] true"}, {[]float32{1, 5, 2}, "[41aaaaab 408aaaa9] true"},
		{[]float32{1, -1, 1, -1}, "[00000000 00000000 40800000] true"}, {repeated(float32(0.1), 7), "[3d8f5c2a 2436db6e 23a49249 23124925] true"}, {wavy(), "[47bcf829 4771346d 47b8640c 4784e413 47c7a02b 478f4116 47e30211] true"},
		{rough(), "[428db7b5 41276d11 42a71657 420e2723 43177780 404e6b70 42916f6e] true"}, {tiny(), "[00000000 00000000 00000000] true"}, {wholeNumbers(20), "[51535efb 4dbf80b7 4ecb4056 4eaee526 4cf508ea 4f2cde14 4ca99115 4beb64a0 4e4ebd8d 4d791272 4efa32a3] true"}, {[]float32{1e18, 1e18}, "[7bc097ce 00000000] true"},
		{[]float32{1e20}, noNumbers}, {[]float32{1e20, -1e20}, noNumbers}, {[]float32{3e38, 3e38}, noNumbers}, {steep(), noNumbers},
	}
	for _, row := range rows {
		powers, ok := impl.LinePowers(row.list)
		expect(t, "line powers of "+shown(row.list), shown(powers, ok), row.want)
	}
}

func TestTapered(t *testing.T) {
	minusZero := fromBits(negZero)
	rows := []struct {
		list []float32
		kind int64
		want string
	}{
		{[]float32{4, 4}, 2, "[40000000 40000000] true"}, {[]float32{4, 4}, 1, "[40000000 40000000] true"}, {[]float32{4, minusZero}, 0, sure(4, minusZero)},
		{[]float32{7}, 0, sure(7)}, {[]float32{7}, 1, "[40e00000] true"}, {[]float32{7}, 2, sure(7)}, {[]float32{minusZero, 1, 2}, 1, "[80000000 3f800000 3f000002] true"},
		{wavy(), 0, sure(wavy()...)}, {wavy(), 1, "[3d585488 beca72a3 4043abf8 3e415ac7 4455636b c2393ac3 40ad0060 3d74bb18 40fbc38a bf9c8992 416a148d 3c8b9160] true"}, {wavy(), 2, "[3e844442 bf2ccccd 405bffff 3e333333 443b8000 c22cbc97 40a15555 3d570a3e 40e95556 bfafffff 41c7cccd 3daaaab0] true"}, {rough(), 1, "[3c0b9160 3f87e708 bf9c8993 40f1b178 3c0bd8a0 c1041c37 400a66b4 4181bd78 bee19494 400272a5 3e24f51d bdd15a10] true"}, {rough()[:11], 2, "[3d3a2e90 3ffd1744 bfc00001 40f45d17 3c060d08 c1066666 3fe66668 4141745d bea2e8bb 3fbfffff 3dccccd2] true"},
		{steep(), 1, "[5d14bde0 dda68890 5fa1da17 5d1104f2 de8ac723 3eab7cc8] true"}, {tiny(), 1, "[00000000 0053c6ef 80000003 0053c6f0 80000000] true"}, {tiny(), 2, "[00000000 004ccccc 80000003 004cccce 80000000] true"}, {[]float32{3.4e38, 3.4e38, 3.4e38}, 1, "[7e7fc99e 7f7fc99e 7e7fc9a2] true"},
		{wholeNumbers(20), 1, "[00000000 43d89fe1 45913f62 4698356c 4630c94a 475da2ba 47722285 47931a5a 45d046d2 4721e34d 47b2f2c0 47581c3b 47079e49 46dba915 46ed37d6 470769e9 45ec51db 464bc575 45619cf3 43b668c3] true"}, {repeated(float32(1), 25), 2, "[3d23d710 3df5c290 3e4ccccc 3e8f5c28 3eb851ec 3ee147ae 3f051eb8 3f19999a 3f2e147b 3f428f5c 3f570a3d 3f6b851f 3f800000 3f6b851e 3f570a3e 3f428f5c 3f2e147a 3f19999a 3f051eb8 3ee147b0 3eb851ec 3e8f5c28 3e4cccd0 3df5c290 3d23d700] true"}, {repeated(float32(1), 25), 1, "[3b813140 3d0fd158 3dc3910c 3e39a390 3e930022 3ed007c7 3f080985 3f278ddf 3f4495f9 3f5d4ed8 3f702ad1 3f7bfa88 3f800000 3f7bfa88 3f702ad2 3f5d4ed8 3f4495f8 3f278ddf 3f080985 3ed007ca 3e930022 3e39a38e 3dc39114 3d0fd158 3b813140] true"},
		{wavy(), 3, noNumbers}, {wavy(), -1, noNumbers}, {wavy(), math.MaxInt64, noNumbers}, {wavy(), math.MinInt64, noNumbers},
	}
	for _, row := range rows {
		list, ok := impl.Tapered(row.list, row.kind)
		expect(t, "tapered "+shown(row.list, row.kind), shown(list, ok), row.want)
	}
	for kind := int64(0); kind < 3; kind++ {
		list, ok := impl.Tapered(make([]float32, impl.MaxLong), kind)
		expect(t, "tapered zeros", shown(list, ok), shown(make([]float32, impl.MaxLong), true))
	}
}

func TestLeadOf(t *testing.T) {
	minusZero := fromBits(negZero)
	late, early := []float32{0, 0, 1, 0}, []float32{0, 1, 0, 0}
	rows := []struct {
		a, b []float32
		k    int64
		want string
	}{
		{early, late, 1, "3e800000 true"}, {late, early, 1, "be800000 true"}, {early, late, 0, "00000000 true"},
		{early, late, 2, "3f000000 true"}, {late, late, 2, "00000000 true"}, {[]float32{3}, []float32{5}, 0, "00000000 true"},
		{[]float32{3}, []float32{-5}, 0, "3f000000 true"}, {wavy(), rough(), 0, "00000000 true"}, {wavy(), rough(), 1, "3e65e0c4 true"},
		{wavy(), rough(), 5, "3ed09aa9 true"}, {wavy(), rough(), 6, "3f000000 true"}, {rough(), wavy(), 5, "bed09aa9 true"},
		{wavy()[:11], rough()[:11], 5, "3ef578fd true"}, {wavy(), wavy(), 4, "00000000 true"}, {steep(), rough()[:6], 3, "3f000000 true"},
		{wholeNumbers(impl.MaxLong), placesOf(impl.MaxLong), 48, "00000000 true"}, {wholeNumbers(impl.MaxLong), placesOf(impl.MaxLong), 7, "3cd9d5e3 true"},
		// Another line is not finite.
		{[]float32{3e38, 2e38}, []float32{1, 0}, 1, "00000000 true"}, {[]float32{1, 0}, []float32{3e38, 2e38}, 1, "00000000 true"},
		{[]float32{3e38, 2e38}, []float32{1, 0}, 0, noNumber}, {[]float32{1, 0}, []float32{3e38, 2e38}, 0, noNumber},
		// The product is not finite, or 0, by a line of 0 or by its parts.
		{[]float32{1e20}, []float32{1e20}, 0, noNumber}, {[]float32{1e-30}, []float32{1e-30}, 0, noNumber}, {[]float32{1e-20}, []float32{1e-20}, 0, "00000000 true"},
		{[]float32{0, minusZero}, []float32{1, 2}, 0, noNumber}, {[]float32{1, 2}, []float32{0, minusZero}, 1, noNumber}, {[]float32{0, 0}, []float32{0, 0}, 0, noNumber},
		{[]float32{1, 0}, []float32{2, -2}, 0, noNumber},
		{wavy(), rough(), 7, noNumber}, {wavy()[:11], rough()[:11], 6, noNumber}, {wavy(), rough(), -1, noNumber}, {wavy(), rough(), math.MaxInt64, noNumber},
		{wavy(), rough(), math.MinInt64, noNumber}, {[]float32{3}, []float32{5}, 1, noNumber},
	}
	for _, row := range rows {
		lead, ok := impl.LeadOf(row.a, row.b, row.k)
		expect(t, "lead of "+shown(row.a, row.b, row.k), shown(lead, ok), row.want)
	}
	for _, pair := range unequalPairs() {
		lead, ok := impl.LeadOf(pair[0], pair[1], 0)
		expect(t, "lead of "+shown(pair[0], pair[1]), shown(lead, ok), noNumber)
		together, ok := impl.TogetherOf(pair[0], pair[1], 1, 0)
		expect(t, "together "+shown(pair[0], pair[1]), shown(together, ok), noNumber)
	}
}

func TestTogetherOf(t *testing.T) {
	up, down := []float32{1, 2, 4, 7}, []float32{9, 3, 1, 0}
	rows := []struct {
		a, b     []float32
		parts, k int64
		want     string
	}{
		{[]float32{1, -1, 1, -1}, []float32{1, -1, 1, -1}, 2, 1, "3f800000 true"}, {[]float32{3}, []float32{5}, 1, 0, "3f800000 true"},
		{up, down, 1, 2, "3f800000 true"}, {up, down, 2, 0, "3df0006f true"}, {up, down, 2, 1, "3e602c48 true"},
		{up, down, 4, 0, "3d6820cb true"}, {wavy(), rough(), 1, 6, "3f800000 true"}, {wavy(), rough(), 2, 3, "3f094f6d true"},
		{wavy(), rough(), 3, 2, "3e05a113 true"}, {wavy(), rough(), 3, 1, "3f5dc9c0 true"}, {wavy(), rough(), 4, 1, "3ed6186e true"},
		{wavy(), rough(), 12, 0, "39963835 true"}, {wholeNumbers(impl.MaxLong), placesOf(impl.MaxLong), 16, 3, "3c2d25b3 true"},
		{wholeNumbers(impl.MaxLong), placesOf(impl.MaxLong), 6, 8, "3cc7c471 true"},
		// Lines that are not asked for need not be finite, and nor need the divisor be.
		{[]float32{3e38, 2.9e38, 1, 2}, []float32{1e-30, 0, 1e-30, 0}, 2, 1, noNumber}, {[]float32{3e38, 3e38, 1, 2}, []float32{1, 2, 3, 4}, 2, 1, "3f000000 true"},
		{[]float32{1, 2, 3, 4}, []float32{1, 2, 3e38, 3e38}, 2, 1, "3f000000 true"},
		{[]float32{3e38, 3e38, 1, 2}, []float32{1, 2, 3, 4}, 2, 0, noNumber}, {[]float32{1, 2, 3, 4}, []float32{1, 2, 3e38, 3e38}, 2, 0, noNumber},
		{[]float32{1e10, 1e10}, []float32{1e10, 1e10}, 2, 0, noNumber}, {[]float32{1e20, 1}, []float32{0, 1}, 2, 0, "00000000 true"},
		// The divisor is 0.
		{[]float32{0, 0}, []float32{1, 2}, 1, 0, noNumber}, {[]float32{1, 2}, []float32{0, 0}, 1, 0, noNumber}, {[]float32{1e-12}, []float32{1e-12}, 1, 0, noNumber},
		{[]float32{1e-11}, []float32{1e-11}, 1, 0, "3f800000 true"}, {[]float32{5, 5, 5, 5}, up, 2, 1, noNumber},
		{up, down, 3, 0, noNumber}, {up, down, 0, 0, noNumber}, {up, down, -1, 0, noNumber}, {up, down, 8, 0, noNumber}, {up, down, math.MaxInt64, 0, noNumber},
		{up, down, math.MinInt64, 0, noNumber}, {placesOf(34), placesOf(34), 17, 0, noNumber}, {placesOf(17), placesOf(17), 17, 0, noNumber}, {placesOf(96), placesOf(96), 24, 0, noNumber},
		{up, down, 2, 2, noNumber}, {up, down, 1, 3, noNumber}, {up, down, 4, 1, noNumber}, {up, down, 2, -1, noNumber}, {wavy(), rough(), 4, 2, noNumber},
		{up, down, 2, math.MaxInt64, noNumber}, {up, down, 2, math.MinInt64, noNumber},
	}
	for _, row := range rows {
		together, ok := impl.TogetherOf(row.a, row.b, row.parts, row.k)
		expect(t, "together "+shown(row.a, row.b, row.parts, row.k), shown(together, ok), row.want)
	}
}
