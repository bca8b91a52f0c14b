package tests

import (
	"fmt"
	"math"
	"strings"
	"testing"
)

// Bits of numbers that the tests name often.
const (
	plusZero   = 0x00000000
	minusZero  = 0x80000000
	leastBits  = 0x00000001 // the least subnormal number
	mostSubBit = 0x007fffff // the greatest subnormal number
	leastPlain = 0x00800000 // the least number that is not subnormal
	greatest   = 0x7f7fffff // the greatest finite number
	plusInf    = 0x7f800000
	minusInf   = 0xff800000
	noNumber   = 0x7fc00000
)

// number is the number with these bits, made without the program.
func number(bits uint32) float32 {
	return math.Float32frombits(bits)
}

// bitsOf tells a number, and every not-a-number in the same way, without the program.
func bitsOf(x float32) uint32 {
	if x != x {
		return noNumber
	}
	return math.Float32bits(x)
}

// point is the complex number whose parts have these bits.
func point(re, im uint32) complex64 {
	return complex(number(re), number(im))
}

func wantNumber(t *testing.T, what string, got float32, want uint32) {
	t.Helper()
	if bitsOf(got) != want {
		t.Errorf("%s: got %v (%08x), want %v (%08x)", what, got, bitsOf(got), number(want), want)
	}
}

func wantPoint(t *testing.T, what string, got complex64, re, im uint32) {
	t.Helper()
	if bitsOf(real(got)) != re || bitsOf(imag(got)) != im {
		t.Errorf("%s: got %v (%08x %08x), want %08x %08x", what, got, bitsOf(real(got)), bitsOf(imag(got)), re, im)
	}
}

func wantTrue(t *testing.T, what string, got bool) {
	t.Helper()
	if !got {
		t.Errorf("%s: got false, want true", what)
	}
}

func wantFalse(t *testing.T, what string, got bool) {
	t.Helper()
	if got {
		t.Errorf("%s: got true, want false", what)
	}
}

// shown tells values by their bits, so that equal texts mean the same values.
func shown(values ...any) string {
	var b strings.Builder
	for _, v := range values {
		switch x := v.(type) {
		case float32:
			fmt.Fprintf(&b, "%08x ", bitsOf(x))
		case complex64:
			fmt.Fprintf(&b, "%08x:%08x ", bitsOf(real(x)), bitsOf(imag(x)))
		case []float32:
			fmt.Fprintf(&b, "%d[", len(x))
			for _, y := range x {
				b.WriteString(shown(y))
			}
			b.WriteString("] ")
		case []complex64:
			fmt.Fprintf(&b, "%d[", len(x))
			for _, y := range x {
				b.WriteString(shown(y))
			}
			b.WriteString("] ")
		default:
			fmt.Fprintf(&b, "%v ", x)
		}
	}
	return b.String()
}

func wantSame(t *testing.T, what, got, want string) {
	t.Helper()
	if got != want {
		t.Errorf("%s: got %s, want %s", what, got, want)
	}
}

// wantShown checks what is shown of some results.
func wantShown(t *testing.T, what, got string, want ...any) {
	t.Helper()
	wantSame(t, what, got, shown(want...))
}

// repeated is a list with count times the same value, and spare room behind it.
func repeated[T any](value T, count int) []T {
	list := make([]T, count, count+3)
	for i := range list {
		list[i] = value
	}
	return list
}
