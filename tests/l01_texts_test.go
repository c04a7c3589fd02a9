package tests

import (
	"math"
	"strings"
	"testing"

	"loop.example/g01375/impl"
)

func TestNumbersText(t *testing.T) {
	rows := []struct {
		list []float32
		want string
	}{
		{nil, "none"}, {[]float32{}, "none"}, {[]float32{1}, "3f800000"}, {[]float32{1, -2}, "3f800000,c0000000"},
		{[]float32{0, fromBits(negZero), fromBits(1)}, "00000000,80000000,00000001"},
		{[]float32{fromBits(infBits), fromBits(minusInf)}, "7f800000,ff800000"},
		{[]float32{fromBits(0xffffffff), fromBits(0x7f800001), fromBits(nanBits)}, "7fc00000,7fc00000,7fc00000"},
		{[]float32{fromBits(0x1abcdef9)}, "1abcdef9"},
	}
	for _, row := range rows {
		got, ok := impl.NumbersText(row.list)
		expect(t, "text of "+shown(row.list), shown(got, ok), shown(row.want, true))
		list, ok := impl.ReadNumbers(row.want)
		expect(t, "numbers of "+row.want, shown(list, ok), shown(row.list, true))
	}
}

func TestComplexText(t *testing.T) {
	rows := []struct {
		list []complex64
		want string
	}{
		{nil, "none"}, {[]complex64{}, "none"}, {[]complex64{1}, "3f80000000000000"},
		{[]complex64{1, complex(0, -2)}, "3f80000000000000,00000000c0000000"},
		{[]complex64{fromPair(negZero, 1), fromPair(infBits, minusInf)}, "8000000000000001,7f800000ff800000"},
		{[]complex64{fromPair(0xffc00000, 0x7f800001)}, "7fc000007fc00000"},
	}
	for _, row := range rows {
		got, ok := impl.ComplexText(row.list)
		expect(t, "text of "+shown(row.list), shown(got, ok), shown(row.want, true))
		list, ok := impl.ReadComplex(row.want)
		expect(t, "complex numbers of "+row.want, shown(list, ok), shown(row.list, true))
	}
}

func TestTextsLeadBack(t *testing.T) {
	numbers := append(scatter(3000), specialNumbers()...)
	for i := 0; i+8 <= len(numbers); i += 8 {
		list := numbers[i : i+8]
		text, _ := impl.NumbersText(list)
		back, ok := impl.ReadNumbers(text)
		if !ok || !sameNumbers(back, list) {
			t.Fatalf("%s is read back as %s", shown(list), shown(back, ok))
		}
		pairs := []complex64{complex(list[0], list[1]), complex(list[2], list[3])}
		text, _ = impl.ComplexText(pairs)
		pairsBack, ok := impl.ReadComplex(text)
		expect(t, "read back", shown(pairsBack, ok), shown(pairs, true))
	}
}

func TestTextLimits(t *testing.T) {
	const most = impl.MaxNumbers
	numberText := strings.Repeat("3f800000,", most-1) + "3f800000"
	got, ok := impl.NumbersText(repeated(float32(1), most))
	expect(t, "longest text", shown(got, ok), shown(numberText, true))
	numbers, ok := impl.ReadNumbers(numberText)
	expect(t, "longest list", shown(numbers, ok), shown(repeated(float32(1), most), true))
	got, ok = impl.NumbersText(repeated(float32(1), most+1))
	expect(t, "too long a list", shown(got, ok), shown("", false))
	numbers, ok = impl.ReadNumbers(numberText + ",3f800000")
	expect(t, "too long a text", shown(numbers, ok), shown([]float32(nil), false))

	pairText := strings.Repeat("3f80000000000000,", most-1) + "3f80000000000000"
	got, ok = impl.ComplexText(repeated(complex64(1), most))
	expect(t, "longest complex text", shown(got, ok), shown(pairText, true))
	pairs, ok := impl.ReadComplex(pairText)
	expect(t, "longest complex list", shown(pairs, ok), shown(repeated(complex64(1), most), true))
	got, ok = impl.ComplexText(repeated(complex64(1), most+1))
	expect(t, "too long a complex list", shown(got, ok), shown("", false))
	pairs, ok = impl.ReadComplex(pairText + ",3f80000000000000")
	expect(t, "too long a complex text", shown(pairs, ok), shown([]complex64(nil), false))
}

func TestWrongNumberTexts(t *testing.T) {
	one := "3f800000"
	wrong := []string{"", ",", "None", "none,", ",none", "none," + one, one + ",none", " none", "nonenone",
		one + ",", "," + one, one + ",," + one, one + " " + one, one + "," + one + ",", one + one + one,
		"3f80000", "3f8000000", "3F800000", "3f80000g", "3f80000G", "3f80000/", "3f80000:", "3f80000`", "3f80000@",
		"-3f80000", "+3f80000", "0x3f8000", "3f80_000", "3f80000 ", " 3f80000", "3f80000\x00", "3f80000\xff",
		"3f8000é", "３f800", "7fc00001", "7f800001", "ffc00000", "ff800001", "7fffffff", one + ",7fc00001",
		one + ";" + one, one + "\xff" + one}
	for _, text := range wrong {
		list, ok := impl.ReadNumbers(text)
		expect(t, "numbers of "+shown(text), shown(list, ok), shown([]float32(nil), false))
	}
	for _, text := range wrong {
		if text == "" || text == "none" {
			continue
		}
		for _, pair := range []string{text, text + one, one + text} {
			list, ok := impl.ReadComplex(pair)
			expect(t, "complex numbers of "+shown(pair), shown(list, ok), shown([]complex64(nil), false))
		}
	}
	for _, text := range []string{"", one, "3f800000,00000000", "3f80000000000000,", ",3f80000000000000",
		"3f80000000000000,3f800000", "3f8000000000000", "3f800000000000000", "3f80000000000000,,3f80000000000000"} {
		list, ok := impl.ReadComplex(text)
		expect(t, "complex numbers of "+shown(text), shown(list, ok), shown([]complex64(nil), false))
	}
}

func TestIsName(t *testing.T) {
	for _, name := range []string{"a", "z", "ring", "abcdefgh", "zzzzzzzz"} {
		if !impl.IsName(name) {
			t.Errorf("%q is a name", name)
		}
	}
	for _, name := range []string{"", "abcdefghi", "A", "ringA", "a1", "1", " ", "a ", "a-b", "`", "{", "é", "a\x00", "\xff", "a,b"} {
		if impl.IsName(name) {
			t.Errorf("%q is no name", name)
		}
	}
}

func TestDecimal(t *testing.T) {
	rows := []struct {
		n    int64
		want string
	}{
		{0, "0"}, {7, "7"}, {-4, "-4"}, {10, "10"}, {-100, "-100"}, {1234567890, "1234567890"},
		{impl.MaxValue, "1000000000000000"}, {-impl.MaxValue, "-1000000000000000"},
		{999999999999999, "999999999999999"},
	}
	for _, row := range rows {
		expect(t, "Decimal", impl.Decimal(row.n), row.want)
		n, ok := impl.ReadDecimal(row.want)
		expect(t, "number of "+row.want, shown(n, ok), shown(row.n, true))
	}
	expect(t, "greatest", impl.Decimal(math.MaxInt64), "9223372036854775807")
	expect(t, "least", impl.Decimal(math.MinInt64), "-9223372036854775808")
}

// wrongDecimals are texts of which none is the Decimal of a number in range.
func wrongDecimals() []string {
	return []string{"", "-", "--1", "-0", "+1", "00", "01", "-01", "007", " 1", "1 ", "1-", "1-2", "1a", "a", "/", ":",
		"1.0", "1e3", "0x1", "1_000", "１", "\xff", "1\x00", "1000000000000001", "-1000000000000001",
		"0000000000000001", "9223372036854775807", "-9223372036854775808", "18446744073709551617",
		"10000000000000000", "-10000000000000000", strings.Repeat("9", 300), strings.Repeat("0", 300) + "1"}
}

func TestWrongDecimals(t *testing.T) {
	for _, text := range wrongDecimals() {
		n, ok := impl.ReadDecimal(text)
		expect(t, "number of "+shown(text), shown(n, ok), shown(int64(0), false))
	}
}

func TestListText(t *testing.T) {
	rows := []struct {
		list []int64
		want string
	}{
		{nil, "none"}, {[]int64{}, "none"}, {[]int64{0}, "0"}, {[]int64{1, -2, 30}, "1,-2,30"},
		{[]int64{impl.MaxValue, -impl.MaxValue}, "1000000000000000,-1000000000000000"},
		{repeated(int64(5), impl.MaxItems), strings.Repeat("5,", impl.MaxItems-1) + "5"},
		{repeated(int64(-impl.MaxValue), impl.MaxItems), strings.Repeat("-1000000000000000,", impl.MaxItems-1) + "-1000000000000000"},
	}
	for _, row := range rows {
		got, ok := impl.ListText(row.list)
		expect(t, "text of a list", shown(got, ok), shown(row.want, true))
		list, ok := impl.ReadList(row.want)
		expect(t, "list of "+row.want, shown(list, ok), shown(row.list, true))
	}
	for _, list := range [][]int64{{impl.MaxValue + 1}, {-impl.MaxValue - 1}, {1, math.MinInt64}, {math.MaxInt64, 1},
		repeated(int64(5), impl.MaxItems+1)} {
		got, ok := impl.ListText(list)
		expect(t, "text of "+shown(list), shown(got, ok), shown("", false))
	}
}

func TestWrongLists(t *testing.T) {
	wrong := []string{",", "1,", ",1", "1,,2", "1, 2", "1;2", "None", "none,", "none,1", "1,none", "nonenone",
		strings.Repeat("5,", impl.MaxItems) + "5", strings.Repeat(",", impl.MaxItems-1)}
	for _, text := range wrongDecimals() {
		wrong = append(wrong, text, "1,"+text, text+",1")
	}
	for _, text := range wrong {
		list, ok := impl.ReadList(text)
		expect(t, "list of "+shown(text), shown(list, ok), shown([]int64(nil), false))
	}
}

func TestCheckOf(t *testing.T) {
	rows := []struct {
		start int64
		text  string
		want  int64
	}{
		{0, "", 0}, {65002, "", 65002}, {0, "a", 296}, {0, "\x00", 199}, {0, "\xff", 454}, {1, "a", 1237},
		{296, "b", (941*296 + 98 + 199) % 65003}, {0, "ab", (941*296 + 98 + 199) % 65003},
		{65002, "a", (941*65002 + 97 + 199) % 65003},
	}
	for _, row := range rows {
		got, ok := impl.CheckOf(row.start, row.text)
		expect(t, "check of "+shown(row.text), shown(got, ok), shown(row.want, true))
	}
	long := strings.Repeat("day\xc3\x28", 5000)
	half, _ := impl.CheckOf(7, long[:12345])
	whole, ok := impl.CheckOf(7, long)
	rest, _ := impl.CheckOf(half, long[12345:])
	expect(t, "check in two parts", shown(rest, true), shown(whole, ok))
	for _, start := range []int64{-1, impl.CheckSize, math.MinInt64, math.MaxInt64} {
		got, ok := impl.CheckOf(start, "a")
		expect(t, "check from beyond", shown(got, ok), shown(int64(0), false))
	}
}
