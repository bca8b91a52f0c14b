package impl

import (
	"math"
	"strconv"
	"strings"
)

// Every product of floats that goes into a sum stands in a conversion of its
// own: Go may otherwise fuse the two operations and round only once.

// Limits of chapter 1.
const (
	MaxNumbers = 256
	MaxValue   = 1000000000000000
	MaxItems   = 64
	CheckSize  = 65003
)

const (
	// greatestBits is the greatest number that 32 bits tell.
	greatestBits = 1<<32 - 1
	// notNumberBits are the bits that stand for every not-a-number.
	notNumberBits = 0x7fc00000
	// wholeFrom is where turns are taken to have no places behind the point.
	wholeFrom = 1 << 52
	// digitsOfNumber is how many hexadecimal digits tell a number.
	digitsOfNumber = 8
	// emptyText is the text of an empty list of any kind.
	emptyText = "none"
)

// SameNumber reports whether two numbers are the same.
func SameNumber(a, b float32) bool {
	return BitsOf(a) == BitsOf(b)
}

// IsFinite reports whether x is finite.
func IsFinite(x float32) bool {
	return isFiniteWide(float64(x))
}

// isFiniteWide reports whether a 64-bit number is finite.
func isFiniteWide(x float64) bool {
	return !math.IsNaN(x) && !math.IsInf(x, 0)
}

// BitsOf returns the bits of a number.
func BitsOf(x float32) int64 {
	if x != x {
		return notNumberBits
	}
	return int64(math.Float32bits(x))
}

// FromBits returns the number with the given bits.
func FromBits(n int64) (float32, bool) {
	if n < 0 || n > greatestBits {
		return 0, false
	}
	return math.Float32frombits(uint32(n)), true
}

// NarrowNumber returns the nearest 32-bit number.
func NarrowNumber(x float64) float32 {
	return float32(x)
}

// IsSubnormal reports whether x is subnormal.
func IsSubnormal(x float32) bool {
	return x != 0 && math.Abs(float64(x)) < 0x1p-126
}

// FlushNumber returns x, but a zero if it is subnormal.
func FlushNumber(x float32) float32 {
	if IsSubnormal(x) {
		return float32(math.Copysign(0, float64(x)))
	}
	return x
}

// SameComplex reports whether two complex numbers are the same.
func SameComplex(a, b complex64) bool {
	return SameNumber(real(a), real(b)) && SameNumber(imag(a), imag(b))
}

// IsFiniteComplex reports whether both parts are finite.
func IsFiniteComplex(x complex64) bool {
	return IsFinite(real(x)) && IsFinite(imag(x))
}

// NarrowComplex returns a number with narrowed parts.
func NarrowComplex(x complex128) complex64 {
	return complex(NarrowNumber(real(x)), NarrowNumber(imag(x)))
}

// wideProduct returns the product with 64-bit parts.
func wideProduct(x, y complex64) (float64, float64) {
	a, b := float64(real(x)), float64(imag(x))
	c, d := float64(real(y)), float64(imag(y))
	return float64(a*c) - float64(b*d), float64(a*d) + float64(b*c)
}

// widePower returns the power as a 64-bit number.
func widePower(x complex64) float64 {
	a, b := float64(real(x)), float64(imag(x))
	return float64(a*a) + float64(b*b)
}

// MulComplex returns a product.
func MulComplex(x, y complex64) complex64 {
	re, im := wideProduct(x, y)
	return complex(NarrowNumber(re), NarrowNumber(im))
}

// ScaleComplex returns a product with a number.
func ScaleComplex(x complex64, by float32) complex64 {
	return complex(float32(real(x)*by), float32(imag(x)*by))
}

// ConjugateOf returns the conjugate.
func ConjugateOf(x complex64) complex64 {
	return complex(real(x), -imag(x))
}

// PowerOf returns the power.
func PowerOf(x complex64) float32 {
	return NarrowNumber(widePower(x))
}

// LongOf returns the root of the power.
func LongOf(x complex64) float32 {
	return NarrowNumber(math.Sqrt(widePower(x)))
}

// QuotientOf returns a quotient.
func QuotientOf(x, y complex64) complex64 {
	re, im := wideProduct(x, ConjugateOf(y))
	power := widePower(y)
	return complex(NarrowNumber(re/power), NarrowNumber(im/power))
}

// RootNumber returns the square root.
func RootNumber(x float32) float32 {
	return NarrowNumber(math.Sqrt(float64(x)))
}

// shareOfTurn returns the places behind the point of turns that are nearer to
// 0 than wholeFrom, from 0 to 1.
func shareOfTurn(turns float64) float64 {
	// The detour through an integer makes the cut-off 0 a +0 for negative turns.
	f := turns - float64(int64(turns))
	if f < 0 {
		f++
	}
	return f
}

// wideSine returns the sine of turns that are nearer to 0 than wholeFrom.
func wideSine(turns float64) float64 {
	f := shareOfTurn(turns)
	turned := f >= 0.5
	if turned {
		f -= 0.5
	}
	if f > 0.25 {
		f = 0.5 - f
	}
	z := f * 6.283185307179586
	u := z * z
	p := 1.0
	for k := 8; k >= 1; k-- {
		p = 1 - float64(u*p)/float64(2*k*(2*k+1))
	}
	if turned {
		return -(z * p)
	}
	return z * p
}

// SineTurns returns the sine of some turns.
func SineTurns(x float32) float32 {
	turns := float64(x)
	if !isFiniteWide(turns) {
		return float32(math.NaN())
	}
	if math.Abs(turns) >= wholeFrom {
		return 0
	}
	return NarrowNumber(wideSine(turns))
}

// PhasorOf returns a point of the unit circle.
func PhasorOf(turns float64) complex64 {
	if !isFiniteWide(turns) {
		none := float32(math.NaN())
		return complex(none, none)
	}
	if math.Abs(turns) >= wholeFrom {
		return 1
	}
	f := shareOfTurn(turns)
	q := 0
	for f >= 0.25 {
		f -= 0.25
		q++
	}
	c, s := wideSine(0.25-f), wideSine(f)
	// 0 - s is not -s: it gives +0 for both zeros.
	switch q {
	case 1:
		c, s = 0-s, c
	case 2:
		c, s = 0-c, 0-s
	case 3:
		c, s = s, 0-c
	}
	return complex(NarrowNumber(c), NarrowNumber(s))
}

// AngleOf returns the angle in turns.
func AngleOf(x complex64) float32 {
	return AngleTurns(imag(x), real(x))
}

// AngleTurns returns the angle of a point.
func AngleTurns(y, x float32) float32 {
	if !IsFinite(y) || !IsFinite(x) {
		return float32(math.NaN())
	}
	if y == 0 && x == 0 {
		return 0
	}
	a, b := math.Abs(float64(y)), math.Abs(float64(x))
	angle := 0.0
	if a > b {
		angle = 0.25 - flatAngle(b/a)
	} else {
		angle = flatAngle(a / b)
	}
	if x < 0 {
		angle = 0.5 - angle
	}
	if y < 0 {
		angle = -angle
	}
	return NarrowNumber(angle)
}

// flatAngle returns the angle in turns whose tangent is t, from 0 to 1.
func flatAngle(t float64) float64 {
	for range 3 {
		t = t / (1 + math.Sqrt(1+float64(t*t)))
	}
	u := t * t
	p := 0.0
	for k := 15; k >= 1; k -= 2 {
		p = 1/float64(k) - float64(u*p)
	}
	return 8 * float64(t*p) / 6.283185307179586
}

// wideLog returns the logarithm of a finite number greater than 0.
func wideLog(x float64) float64 {
	e := 0
	for x >= 1.5 {
		x /= 2
		e++
	}
	for x < 0.75 {
		x *= 2
		e--
	}
	s := (x - 1) / (x + 1)
	u := s * s
	q := 0.0
	for k := 25; k >= 1; k -= 2 {
		q = 1/float64(k) + float64(u*q)
	}
	return float64(2*float64(s*q)) + float64(float64(e)*0.6931471805599453)
}

// TenthsOf returns tenths of decibels.
func TenthsOf(power float32) (int64, bool) {
	if !IsFinite(power) || power <= 0 {
		return 0, false
	}
	tenths := float64(wideLog(float64(power)) * 43.42944819032518)
	return int64(math.Floor(tenths + 0.5)), true
}

// LogNumber returns the logarithm.
func LogNumber(x float32) float32 {
	switch {
	case x == 0:
		return float32(math.Inf(-1))
	case x < 0 || x != x:
		return float32(math.NaN())
	case !IsFinite(x):
		return x
	}
	return NarrowNumber(wideLog(float64(x)))
}

// ExpNumber returns e to a power.
func ExpNumber(x float32) float32 {
	if x > 200 {
		return float32(math.Inf(1))
	}
	if x < -200 {
		return 0
	}
	t := float64(x) / 256
	p := 1.0
	for k := 12; k >= 1; k-- {
		p = 1 + float64(t*p)/float64(k)
	}
	for range 8 {
		p *= p
	}
	return NarrowNumber(p)
}

// SumNumbers returns the sum from left to right.
func SumNumbers(list []float32) (float32, bool) {
	if len(list) > MaxNumbers {
		return 0, false
	}
	sum := float32(0)
	for _, x := range list {
		sum += x
	}
	return sum, true
}

// DotNumbers returns the sum of products.
func DotNumbers(a, b []float32) (float32, bool) {
	if len(a) > MaxNumbers || len(a) != len(b) {
		return 0, false
	}
	sum := float32(0)
	for i, x := range a {
		sum += float32(x * b[i])
	}
	return sum, true
}

// SumComplex returns the sum from left to right.
func SumComplex(list []complex64) (complex64, bool) {
	if len(list) > MaxNumbers {
		return 0, false
	}
	sum := complex64(0)
	for _, x := range list {
		sum += x
	}
	return sum, true
}

// DotComplex returns the sum of products.
func DotComplex(a, b []complex64) (complex64, bool) {
	if len(a) > MaxNumbers || len(a) != len(b) {
		return 0, false
	}
	sum := complex64(0)
	for i, x := range a {
		sum += MulComplex(x, b[i])
	}
	return sum, true
}

// DotConjugate returns the sum of products with conjugates.
func DotConjugate(a, b []complex64) (complex64, bool) {
	if len(a) > MaxNumbers || len(a) != len(b) {
		return 0, false
	}
	sum := complex64(0)
	for i, x := range a {
		sum += MulComplex(ConjugateOf(x), b[i])
	}
	return sum, true
}

// PowersOf returns the sum of powers.
func PowersOf(list []complex64) (float32, bool) {
	if len(list) > MaxNumbers {
		return 0, false
	}
	sum := 0.0
	for _, x := range list {
		sum += widePower(x)
	}
	return NarrowNumber(sum), true
}

// joinTexts returns the text of a list with these texts of its numbers.
func joinTexts(parts []string) string {
	if len(parts) == 0 {
		return emptyText
	}
	return strings.Join(parts, ",")
}

// readItems returns the list with the given text, in which read tells what a
// text between two commas stands for; it has at most most items.
func readItems[T any](s string, most int, read func(string) (T, bool)) ([]T, bool) {
	if s == emptyText {
		return nil, true
	}
	if strings.Count(s, ",") >= most {
		return nil, false
	}
	list := []T{}
	for _, part := range strings.Split(s, ",") {
		item, ok := read(part)
		if !ok {
			return nil, false
		}
		list = append(list, item)
	}
	return list, true
}

// bitsText returns the hexadecimal digits of a number.
func bitsText(x float32) string {
	digits := strconv.FormatInt(BitsOf(x), 16)
	return strings.Repeat("0", digitsOfNumber-len(digits)) + digits
}

// digitOf returns what a hexadecimal digit stands for.
func digitOf(r rune) (int64, bool) {
	switch {
	case r >= '0' && r <= '9':
		return int64(r - '0'), true
	case r >= 'a' && r <= 'f':
		return int64(r-'a') + 10, true
	}
	return 0, false
}

// readBits returns the number with the given hexadecimal digits.
func readBits(s string) (float32, bool) {
	if len(s) != digitsOfNumber {
		return 0, false
	}
	n := int64(0)
	for _, r := range s {
		digit, ok := digitOf(r)
		if !ok {
			return 0, false
		}
		n = 16*n + digit
	}
	x, ok := FromBits(n)
	// Only one of the texts of not-a-numbers is ever written.
	if !ok || BitsOf(x) != n {
		return 0, false
	}
	return x, true
}

// NumbersText returns the text of numbers.
func NumbersText(list []float32) (string, bool) {
	if len(list) > MaxNumbers {
		return "", false
	}
	parts := make([]string, len(list))
	for i, x := range list {
		parts[i] = bitsText(x)
	}
	return joinTexts(parts), true
}

// ReadNumbers returns the numbers with the given text.
func ReadNumbers(s string) ([]float32, bool) {
	return readItems(s, MaxNumbers, readBits)
}

// ComplexText returns the text of complex numbers.
func ComplexText(list []complex64) (string, bool) {
	if len(list) > MaxNumbers {
		return "", false
	}
	parts := make([]string, len(list))
	for i, x := range list {
		parts[i] = bitsText(real(x)) + bitsText(imag(x))
	}
	return joinTexts(parts), true
}

// readBothBits returns the complex number with the given hexadecimal digits.
func readBothBits(s string) (complex64, bool) {
	if len(s) != 2*digitsOfNumber {
		return 0, false
	}
	re, one := readBits(s[:digitsOfNumber])
	im, two := readBits(s[digitsOfNumber:])
	if !one || !two {
		return 0, false
	}
	return complex(re, im), true
}

// ReadComplex returns the complex numbers with the given text.
func ReadComplex(s string) ([]complex64, bool) {
	return readItems(s, MaxNumbers, readBothBits)
}

// IsName reports whether s is a name.
func IsName(s string) bool {
	if len(s) < 1 || len(s) > 8 {
		return false
	}
	for _, r := range s {
		if r < 'a' || r > 'z' {
			return false
		}
	}
	return true
}

// Decimal returns n in decimal.
func Decimal(n int64) string {
	return strconv.FormatInt(n, 10)
}

// isValue reports whether n lies within the limits of the texts of integers.
func isValue(n int64) bool {
	return n >= -MaxValue && n <= MaxValue
}

// ReadDecimal returns the number with the given decimal text.
func ReadDecimal(s string) (int64, bool) {
	n, err := strconv.ParseInt(s, 10, 64)
	// ParseInt also takes a plus sign, -0 and leading zeros.
	if err != nil || !isValue(n) || Decimal(n) != s {
		return 0, false
	}
	return n, true
}

// ListText returns the text of a list.
func ListText(list []int64) (string, bool) {
	if len(list) > MaxItems {
		return "", false
	}
	parts := make([]string, len(list))
	for i, n := range list {
		if !isValue(n) {
			return "", false
		}
		parts[i] = Decimal(n)
	}
	return joinTexts(parts), true
}

// ReadList returns the list with the given text.
func ReadList(s string) ([]int64, bool) {
	return readItems(s, MaxItems, ReadDecimal)
}

// CheckOf returns the check number of a text.
func CheckOf(start int64, s string) (int64, bool) {
	if start < 0 || start >= CheckSize {
		return 0, false
	}
	check := start
	for i := range len(s) {
		check = (887*check + int64(s[i]) + 173) % CheckSize
	}
	return check, true
}
