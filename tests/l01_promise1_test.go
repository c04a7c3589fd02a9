package tests

import (
	"strings"
	"testing"

	"loop.example/g01375/impl"
)

// guarded returns the results told, or that the call panicked.
func guarded(call func() string) (result string) {
	defer func() {
		if recover() != nil {
			result = "panic"
		}
	}()
	return call()
}

func expectSteady(t *testing.T, what string, call func() string) {
	t.Helper()
	first := guarded(call)
	if first == "panic" {
		t.Errorf("%s panicked", what)
	}
	expect(t, what+" once more", guarded(call), first)
}

func TestNumberCallsAreSteady(t *testing.T) {
	numbers := append(specialNumbers(), scatter(40)...)
	for _, a := range numbers {
		expectSteady(t, "functions of "+shown(a), func() string { return numberResults(a) })
		for _, b := range numbers {
			expectSteady(t, "functions of "+shown(a, b), func() string { return pairResults(complex(a, b)) })
		}
	}
}

func numberResults(a float32) string {
	wide := float64(a) * 1.0000000001
	tenths, ok := impl.TenthsOf(a)
	text, okText := impl.NumbersText([]float32{a})
	back, okBack := impl.FromBits(impl.BitsOf(a))
	return shown(impl.IsFinite(a), impl.BitsOf(a), impl.IsSubnormal(a), impl.FlushNumber(a), impl.NarrowNumber(wide),
		impl.PhasorOf(wide), impl.SineTurns(a), impl.RootNumber(a), impl.ExpNumber(a), impl.LogNumber(a),
		tenths, ok, text, okText, back, okBack)
}

func pairResults(x complex64) string {
	y := complex(imag(x), real(x))
	list := []complex64{x, y, x}
	sum, ok := impl.SumComplex(list)
	dot, okDot := impl.DotComplex(list, list)
	turned, okTurned := impl.DotConjugate(list, list)
	powers, okPowers := impl.PowersOf(list)
	text, okText := impl.ComplexText(list)
	return shown(impl.SameNumber(real(x), imag(x)), impl.SameComplex(x, y), impl.IsFiniteComplex(x),
		impl.NarrowComplex(complex128(x)), impl.MulComplex(x, y), impl.ScaleComplex(x, imag(x)), impl.ConjugateOf(x),
		impl.PowerOf(x), impl.LongOf(x), impl.QuotientOf(x, y), impl.AngleOf(x), impl.AngleTurns(real(x), imag(x)),
		sum, ok, dot, okDot, turned, okTurned, powers, okPowers, text, okText)
}

func TestNotANumbersAreOneValue(t *testing.T) {
	want := numberResults(fromBits(nanBits))
	for _, bits := range []uint32{0xffc00000, 0x7f800001, 0xff800001, 0x7fffffff, 0xffffffff} {
		expect(t, "functions of a not-a-number", numberResults(fromBits(bits)), want)
		expect(t, "functions with a not-a-number", pairResults(fromPair(bits, 0)), pairResults(fromPair(nanBits, 0)))
		expect(t, "functions with a not-a-number", pairResults(fromPair(1, bits)), pairResults(fromPair(1, nanBits)))
	}
}

func TestTextCallsAreSteady(t *testing.T) {
	texts := append(wrongDecimals(), "none", "3f800000", "3f80000000000000", "1,2", "ring",
		strings.Repeat("3f800000,", 100000), strings.Repeat(",", 100000), strings.Repeat("9", 100000))
	for _, text := range texts {
		expectSteady(t, "readers of a text", func() string {
			numbers, ok := impl.ReadNumbers(text)
			pairs, okPairs := impl.ReadComplex(text)
			n, okN := impl.ReadDecimal(text)
			list, okList := impl.ReadList(text)
			check, okCheck := impl.CheckOf(3, text)
			return shown(numbers, ok, pairs, okPairs, n, okN, list, okList, check, okCheck, impl.IsName(text))
		})
	}
}

// roomy returns a part of a longer list, which ends before the whole does.
func roomy[T any](whole []T) []T { return whole[:len(whole)-2] }

func TestArgumentsAreLeft(t *testing.T) {
	wholeNumbers := []float32{1, fromBits(negZero), fromBits(0x7f800001), 4, 5}
	wholePairs := []complex64{1, fromPair(negZero, 3), fromPair(0x7f800001, 0), complex(4, 5), 6}
	wholeInts := []int64{3, 1, 2, 7, 8}
	before := shown(wholeNumbers, wholePairs, wholeInts)
	numbers, pairs, ints := roomy(wholeNumbers), roomy(wholePairs), roomy(wholeInts)
	impl.SumNumbers(numbers)
	impl.DotNumbers(numbers, numbers)
	impl.NumbersText(numbers)
	impl.SumComplex(pairs)
	impl.DotComplex(pairs, pairs)
	impl.DotConjugate(pairs, pairs)
	impl.PowersOf(pairs)
	impl.ComplexText(pairs)
	impl.ListText(ints)
	expect(t, "arguments behind the calls", shown(wholeNumbers, wholePairs, wholeInts), before)
}

func TestResultsAreNew(t *testing.T) {
	numbers, _ := impl.ReadNumbers("3f800000,c0000000")
	pairs, _ := impl.ReadComplex("3f80000000000000")
	ints, _ := impl.ReadList("1,2")
	numbers[0], pairs[0], ints[0] = 9, 9, 9
	numbersAgain, _ := impl.ReadNumbers("3f800000,c0000000")
	pairsAgain, _ := impl.ReadComplex("3f80000000000000")
	intsAgain, _ := impl.ReadList("1,2")
	expect(t, "results behind changes", shown(numbersAgain, pairsAgain, intsAgain),
		shown([]float32{1, -2}, []complex64{1}, []int64{1, 2}))
}
