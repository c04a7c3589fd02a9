package impl

import (
	"math"
	"strconv"
	"strings"
)

// Every product that is added to something is converted explicitly: without
// the conversion a compiler may fuse the two operations and round only once.

// Limits of chapter 1.
const (
	MaxNumbers = 256
	MaxValue   = 1000000000000000
	MaxItems   = 64
	CheckSize  = 65003
)

const (
	nanBits     = 0x7fc00000 // the bits that stand for every not-a-number
	bitsDigits  = 8          // hexadecimal digits of 32 bits
	maxNameSize = 8
	wholeFrom   = 1 << 52 // 64-bit numbers from here on count as whole turns
	emptyText   = "none"
)

// SameNumber reports whether two numbers are the same.
func SameNumber(a, b float32) bool { return BitsOf(a) == BitsOf(b) }

// IsFinite reports whether x is finite.
func IsFinite(x float32) bool { return isFinite64(float64(x)) }

func isFinite64(x float64) bool { return !math.IsNaN(x) && !math.IsInf(x, 0) }

// BitsOf returns the bits of a number.
func BitsOf(x float32) int64 {
	if x != x {
		return nanBits
	}
	return int64(math.Float32bits(x))
}

// FromBits returns the number with the given bits.
func FromBits(n int64) (float32, bool) {
	if n < 0 || n > math.MaxUint32 {
		return 0, false
	}
	return math.Float32frombits(uint32(n)), true
}

// NarrowNumber returns the nearest 32-bit number.
func NarrowNumber(x float64) float32 { return float32(x) }

// IsSubnormal reports whether x is subnormal.
func IsSubnormal(x float32) bool {
	return x != 0 && math.Abs(float64(x)) < 0x1p-126
}

// FlushNumber returns x, but a zero if it is subnormal.
func FlushNumber(x float32) float32 {
	if IsSubnormal(x) {
		return float32(math.Copysign(0, float64(x)))
	}
	return x
}

// SameComplex reports whether two complex numbers are the same.
func SameComplex(a, b complex64) bool {
	return SameNumber(real(a), real(b)) && SameNumber(imag(a), imag(b))
}

// IsFiniteComplex reports whether both parts are finite.
func IsFiniteComplex(x complex64) bool { return IsFinite(real(x)) && IsFinite(imag(x)) }

// NarrowComplex returns a number with narrowed parts.
func NarrowComplex(x complex128) complex64 {
	return complex(float32(real(x)), float32(imag(x)))
}

// wideProduct returns the product with 64-bit parts.
func wideProduct(x, y complex64) complex128 {
	a, b := float64(real(x)), float64(imag(x))
	c, d := float64(real(y)), float64(imag(y))
	return complex(float64(a*c)-float64(b*d), float64(a*d)+float64(b*c))
}

// widePower returns the power as a 64-bit number.
func widePower(x complex64) float64 {
	a, b := float64(real(x)), float64(imag(x))
	return float64(a*a) + float64(b*b)
}

// MulComplex returns a product.
func MulComplex(x, y complex64) complex64 { return NarrowComplex(wideProduct(x, y)) }

// ScaleComplex returns a product with a number.
func ScaleComplex(x complex64, by float32) complex64 {
	return complex(float32(real(x)*by), float32(imag(x)*by))
}

// ConjugateOf returns the conjugate.
func ConjugateOf(x complex64) complex64 { return complex(real(x), -imag(x)) }

// PowerOf returns the power.
func PowerOf(x complex64) float32 { return float32(widePower(x)) }

// LongOf returns the root of the power.
func LongOf(x complex64) float32 { return float32(math.Sqrt(widePower(x))) }

// QuotientOf returns a quotient.
func QuotientOf(x, y complex64) complex64 {
	p := wideProduct(x, ConjugateOf(y))
	by := widePower(y)
	return complex(float32(real(p)/by), float32(imag(p)/by))
}

// RootNumber returns the square root.
func RootNumber(x float32) float32 { return float32(math.Sqrt(float64(x))) }

// turnPart returns which part of a turn is left of turns that are nearer to 0
// than wholeFrom; it can be rounded to 1. The way through int64 makes the zero
// that is taken away a positive one.
func turnPart(turns float64) float64 {
	f := turns - float64(int64(turns))
	if f < 0 {
		f++
	}
	return f
}

// wideSine returns the sine of turns that are nearer to 0 than wholeFrom.
func wideSine(turns float64) float64 {
	f := turnPart(turns)
	turned := f >= 0.5
	if turned {
		f -= 0.5
	}
	if f > 0.25 {
		f = 0.5 - f
	}
	z := float64(f * 6.283185307179586)
	u := float64(z * z)
	p := 1.0
	for k := 8.0; k >= 1; k-- {
		p = 1 - float64(u*p)/float64(2*k*(2*k+1))
	}
	if turned {
		return -float64(z * p)
	}
	return float64(z * p)
}

// SineTurns returns the sine of some turns.
func SineTurns(x float32) float32 {
	turns := float64(x)
	if !isFinite64(turns) {
		return float32(math.NaN())
	}
	if math.Abs(turns) >= wholeFrom {
		return 0
	}
	return float32(wideSine(turns))
}

// PhasorOf returns a point of the unit circle.
func PhasorOf(turns float64) complex64 {
	if !isFinite64(turns) {
		nan := float32(math.NaN())
		return complex(nan, nan)
	}
	if math.Abs(turns) >= wholeFrom {
		return 1
	}
	f, quarters := turnPart(turns), 0
	for f >= 0.25 {
		f -= 0.25
		quarters++
	}
	c, s := wideSine(0.25-f), wideSine(f)
	// 0 - s, and not -s: the difference is never a negative zero.
	switch quarters {
	case 1:
		return NarrowComplex(complex(0-s, c))
	case 2:
		return NarrowComplex(complex(0-c, 0-s))
	case 3:
		return NarrowComplex(complex(s, 0-c))
	}
	return NarrowComplex(complex(c, s))
}

// AngleOf returns the angle in turns.
func AngleOf(x complex64) float32 { return AngleTurns(imag(x), real(x)) }

// AngleTurns returns the angle of a point.
func AngleTurns(y, x float32) float32 {
	if !IsFinite(y) || !IsFinite(x) {
		return float32(math.NaN())
	}
	if y == 0 && x == 0 {
		return 0
	}
	a, b := math.Abs(float64(y)), math.Abs(float64(x))
	angle := smallAngle(min(a, b) / max(a, b))
	if a > b {
		angle = 0.25 - angle
	}
	if x < 0 {
		angle = 0.5 - angle
	}
	if y < 0 {
		angle = -angle
	}
	return float32(angle)
}

// smallAngle returns the angle with the tangent t, 0 to 1, in turns. It halves
// the angle three times, so that the row of the arc converges fast.
func smallAngle(t float64) float64 {
	for range 3 {
		t = t / (1 + math.Sqrt(1+float64(t*t)))
	}
	u := float64(t * t)
	p := 0.0
	for k := 15.0; k >= 1; k -= 2 {
		p = 1/k - float64(u*p)
	}
	return float64(8*float64(t*p)) / 6.283185307179586
}

// wideLog returns the logarithm of a finite number greater than 0.
func wideLog(x float64) float64 {
	e := 0.0
	for x < 0.75 {
		x *= 2
		e--
	}
	for x >= 1.5 {
		x /= 2
		e++
	}
	s := (x - 1) / (x + 1)
	u := float64(s * s)
	q := 0.0
	for k := 25.0; k >= 1; k -= 2 {
		q = 1/k + float64(u*q)
	}
	return float64(2*float64(s*q)) + float64(e*0.6931471805599453)
}

// TenthsOf returns tenths of decibels.
func TenthsOf(power float32) (int64, bool) {
	if !IsFinite(power) || power <= 0 {
		return 0, false
	}
	tenths := float64(wideLog(float64(power)) * 43.42944819032518)
	return int64(math.Floor(tenths + 0.5)), true
}

// LogNumber returns the logarithm.
func LogNumber(x float32) float32 {
	wide := float64(x)
	switch {
	case math.IsNaN(wide) || wide < 0:
		return float32(math.NaN())
	case wide == 0:
		return float32(math.Inf(-1))
	case math.IsInf(wide, 1):
		return x
	}
	return float32(wideLog(wide))
}

// ExpNumber returns e to a power.
func ExpNumber(x float32) float32 {
	if x > 200 {
		return float32(math.Inf(1))
	}
	if x < -200 {
		return 0
	}
	t := float64(x) / 256
	p := 1.0
	for k := 12.0; k >= 1; k-- {
		p = 1 + float64(t*p)/k
	}
	for range 8 {
		p = float64(p * p)
	}
	return float32(p)
}

// SumNumbers returns the sum from left to right.
func SumNumbers(list []float32) (float32, bool) {
	if len(list) > MaxNumbers {
		return 0, false
	}
	var sum float32
	for _, x := range list {
		sum = float32(sum + x)
	}
	return sum, true
}

// DotNumbers returns the sum of products.
func DotNumbers(a, b []float32) (float32, bool) {
	if len(a) != len(b) || len(a) > MaxNumbers {
		return 0, false
	}
	var sum float32
	for i, x := range a {
		sum = float32(sum + float32(x*b[i]))
	}
	return sum, true
}

// addComplex returns the sum, whose parts are rounded on their own.
func addComplex(x, y complex64) complex64 {
	return complex(float32(real(x)+real(y)), float32(imag(x)+imag(y)))
}

// SumComplex returns the sum from left to right.
func SumComplex(list []complex64) (complex64, bool) {
	if len(list) > MaxNumbers {
		return 0, false
	}
	var sum complex64
	for _, x := range list {
		sum = addComplex(sum, x)
	}
	return sum, true
}

// DotComplex returns the sum of products.
func DotComplex(a, b []complex64) (complex64, bool) {
	if len(a) != len(b) || len(a) > MaxNumbers {
		return 0, false
	}
	var sum complex64
	for i, x := range a {
		sum = addComplex(sum, MulComplex(x, b[i]))
	}
	return sum, true
}

// DotConjugate returns the sum of products with conjugates.
func DotConjugate(a, b []complex64) (complex64, bool) {
	if len(a) > MaxNumbers {
		return 0, false
	}
	turned := make([]complex64, len(a))
	for i, x := range a {
		turned[i] = ConjugateOf(x)
	}
	return DotComplex(turned, b)
}

// PowersOf returns the sum of powers.
func PowersOf(list []complex64) (float32, bool) {
	if len(list) > MaxNumbers {
		return 0, false
	}
	sum := 0.0
	for _, x := range list {
		sum += widePower(x)
	}
	return float32(sum), true
}

// bitsText returns the 8 hexadecimal digits of the bits of a number.
func bitsText(x float32) string {
	// A leading 1 keeps the zeros behind it, and is cut off.
	return strconv.FormatInt(1<<32+BitsOf(x), 16)[1:]
}

// NumbersText returns the text of numbers.
func NumbersText(list []float32) (string, bool) {
	if len(list) > MaxNumbers {
		return "", false
	}
	texts := make([]string, len(list))
	for i, x := range list {
		texts[i] = bitsText(x)
	}
	return joinTexts(texts), true
}

// ComplexText returns the text of complex numbers.
func ComplexText(list []complex64) (string, bool) {
	if len(list) > MaxNumbers {
		return "", false
	}
	texts := make([]string, len(list))
	for i, x := range list {
		texts[i] = bitsText(real(x)) + bitsText(imag(x))
	}
	return joinTexts(texts), true
}

func joinTexts(texts []string) string {
	if len(texts) == 0 {
		return emptyText
	}
	return strings.Join(texts, ",")
}

// ReadNumbers returns the numbers with the given text.
func ReadNumbers(s string) ([]float32, bool) { return readBits(s, 1) }

// ReadComplex returns the complex numbers with the given text.
func ReadComplex(s string) ([]complex64, bool) {
	parts, ok := readBits(s, 2)
	if !ok {
		return nil, false
	}
	list := make([]complex64, 0, len(parts)/2)
	for i := 0; i < len(parts); i += 2 {
		list = append(list, complex(parts[i], parts[i+1]))
	}
	return list, true
}

// readBits returns the parts, in order, of the items with the given text, each
// of which has as many parts as told.
func readBits(s string, parts int) ([]float32, bool) {
	if s == emptyText {
		return nil, true
	}
	// Each item counts with one comma, the last one with one that is not there.
	size := parts*bitsDigits + 1
	items := (len(s) + 1) / size
	if items == 0 || items > MaxNumbers || (len(s)+1)%size != 0 {
		return nil, false
	}
	list := make([]float32, 0, items*parts)
	bits := int64(0)
	for i, r := range s {
		place := i % size
		if place == size-1 {
			if r != ',' {
				return nil, false
			}
			continue
		}
		digit, ok := hexDigit(r)
		if !ok {
			return nil, false
		}
		bits = bits*16 + digit
		if place%bitsDigits < bitsDigits-1 {
			continue
		}
		x, ok := FromBits(bits)
		// Only one of the bits of not-a-numbers is ever written.
		if !ok || BitsOf(x) != bits {
			return nil, false
		}
		list = append(list, x)
		bits = 0
	}
	return list, true
}

func hexDigit(r rune) (int64, bool) {
	switch {
	case r >= '0' && r <= '9':
		return int64(r - '0'), true
	case r >= 'a' && r <= 'f':
		return int64(r-'a') + 10, true
	}
	return 0, false
}

// IsName reports whether s is a name.
func IsName(s string) bool {
	if len(s) < 1 || len(s) > maxNameSize {
		return false
	}
	for _, r := range s {
		if r < 'a' || r > 'z' {
			return false
		}
	}
	return true
}

// Decimal returns n in decimal.
func Decimal(n int64) string { return strconv.FormatInt(n, 10) }

// ReadDecimal returns the number with the given decimal text.
func ReadDecimal(s string) (int64, bool) {
	// A longer text cannot be in range, and its number might not fit.
	if len(s) > len("-1000000000000000") {
		return 0, false
	}
	n := int64(0)
	for i, r := range s {
		if i == 0 && r == '-' {
			continue
		}
		if r < '0' || r > '9' {
			return 0, false
		}
		n = n*10 + int64(r-'0')
	}
	if strings.HasPrefix(s, "-") {
		n = -n
	}
	if !isValue(n) || Decimal(n) != s {
		return 0, false
	}
	return n, true
}

func isValue(n int64) bool { return n >= -MaxValue && n <= MaxValue }

// ListText returns the text of a list.
func ListText(list []int64) (string, bool) {
	if len(list) > MaxItems {
		return "", false
	}
	texts := make([]string, len(list))
	for i, n := range list {
		if !isValue(n) {
			return "", false
		}
		texts[i] = Decimal(n)
	}
	return joinTexts(texts), true
}

// ReadList returns the list with the given text.
func ReadList(s string) ([]int64, bool) {
	if s == emptyText {
		return nil, true
	}
	texts := strings.SplitN(s, ",", MaxItems+1)
	if len(texts) > MaxItems {
		return nil, false
	}
	list := make([]int64, len(texts))
	for i, text := range texts {
		n, ok := ReadDecimal(text)
		if !ok {
			return nil, false
		}
		list[i] = n
	}
	return list, true
}

// CheckOf returns the check number of a text.
func CheckOf(start int64, s string) (int64, bool) {
	if start < 0 || start >= CheckSize {
		return 0, false
	}
	check := start
	for i := range len(s) {
		check = (941*check + int64(s[i]) + 199) % CheckSize
	}
	return check, true
}
