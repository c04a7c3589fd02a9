package tests

import (
	"fmt"
	"math"
	"strings"
	"testing"

	"loop.example/g01375/impl"
)

const (
	nanBits  = 0x7fc00000
	infBits  = 0x7f800000
	minusInf = 0xff800000
	negZero  = 0x80000000
)

// fromBits does not use the program, which is under test.
func fromBits(bits uint32) float32 { return math.Float32frombits(bits) }

func fromPair(re, im uint32) complex64 { return complex(fromBits(re), fromBits(im)) }

// shown tells values with floats by their bits, where not-a-numbers are one.
func shown(values ...any) string {
	texts := make([]string, len(values))
	for i, value := range values {
		texts[i] = shownOne(value)
	}
	return strings.Join(texts, " ")
}

func shownOne(value any) string {
	switch v := value.(type) {
	case float32:
		if v != v {
			return "nan"
		}
		return fmt.Sprintf("%08x", math.Float32bits(v))
	case complex64:
		return shownOne(real(v)) + "+" + shownOne(imag(v)) + "i"
	case []float32:
		return shownList(v)
	case []complex64:
		return shownList(v)
	case []int64:
		return shownList(v)
	case [][]float32:
		return shownList(v)
	case impl.Shares:
		return shown(v.Level, v.Slope, v.Season, v.Damp)
	case impl.State:
		return shown(v.Level, v.Slope, v.Season, v.At)
	case impl.Level:
		return shown(v.Mean, v.Spread, v.Noise, v.Drift)
	case impl.Trend:
		return shown(v.Level, v.Slope, v.A, v.B, v.C, v.Noise, v.Drift, v.Turn)
	case impl.Regimes:
		return shown(v.Means, v.Spreads, v.Starts, v.Steps)
	case string:
		return fmt.Sprintf("%q", v)
	}
	return fmt.Sprint(value)
}

func shownList[T any](list []T) string {
	texts := make([]string, len(list))
	for i, value := range list {
		texts[i] = shownOne(value)
	}
	return "[" + strings.Join(texts, " ") + "]"
}

func expect(t *testing.T, what, got, want string) {
	t.Helper()
	if got != want {
		t.Errorf("%s: got %s, want %s", what, got, want)
	}
}

// expectBits holds a number against bits, where nanBits stand for every
// not-a-number.
func expectBits(t *testing.T, what string, got float32, want uint32) {
	t.Helper()
	expect(t, what, shown(got), shown(fromBits(want)))
}

func expectPair(t *testing.T, what string, got complex64, re, im uint32) {
	t.Helper()
	expect(t, what, shown(got), shown(fromPair(re, im)))
}

// specialNumbers are the numbers at which 32-bit numbers change their kind.
func specialNumbers() []float32 {
	list := []float32{1, -1, 0.25, -0.25, 0.5, -0.5, 0.75, 1.5, 2, -3, 200, -200, 201, -201,
		1e30, -1e30, 1e-30, -1e-30, 1 << 51, 1 << 52, -(1 << 52)}
	for _, bits := range []uint32{0, 1, 2, 0x7fffff, 0x800000, 0x800001, 0x7f7fffff, infBits,
		nanBits, 0x7f800001, 0x7fffffff} {
		list = append(list, fromBits(bits), fromBits(bits|negZero))
	}
	return list
}

// scatter returns numbers with bits of all kinds, the same ones in each run.
func scatter(count int) []float32 {
	list := make([]float32, count)
	state := uint32(12345)
	for i := range list {
		state = state*1664525 + 1013904223
		list[i] = fromBits(state ^ state>>15)
	}
	return list
}

func sameNumbers(a, b []float32) bool {
	if len(a) != len(b) {
		return false
	}
	for i := range a {
		if !impl.SameNumber(a[i], b[i]) {
			return false
		}
	}
	return true
}
