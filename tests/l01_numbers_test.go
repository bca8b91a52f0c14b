package tests

import (
	"math"
	"testing"

	"loop.example/g01347/impl"
)

func TestFiniteNumbers(t *testing.T) {
	for bits, want := range map[uint32]bool{plusZero: true, minusZero: true, leastBits: true, greatest: true, 0xff7fffff: true, plusInf: false, minusInf: false, noNumber: false, 0xff800001: false} {
		x := number(bits)
		if impl.IsFinite(x) != want {
			t.Errorf("IsFinite %08x: want %v", bits, want)
		}
		if impl.IsFiniteComplex(complex(x, 1)) != want || impl.IsFiniteComplex(complex(1, x)) != want {
			t.Errorf("IsFiniteComplex with %08x: want %v", bits, want)
		}
	}
}

func TestSubnormalNumbers(t *testing.T) {
	cases := []struct {
		bits      uint32
		subnormal bool
		flushed   uint32
	}{
		{plusZero, false, plusZero},
		{minusZero, false, minusZero},
		{leastBits, true, plusZero},
		{0x80000001, true, minusZero},
		{mostSubBit, true, plusZero},
		{0x807fffff, true, minusZero},
		{leastPlain, false, leastPlain},
		{0x80800000, false, 0x80800000},
		{0x3f800000, false, 0x3f800000},
		{plusInf, false, plusInf},
		{minusInf, false, minusInf},
		{noNumber, false, noNumber},
	}
	for _, c := range cases {
		if impl.IsSubnormal(number(c.bits)) != c.subnormal {
			t.Errorf("IsSubnormal %08x: want %v", c.bits, c.subnormal)
		}
		wantNumber(t, "FlushNumber", impl.FlushNumber(number(c.bits)), c.flushed)
	}
}

func TestNarrowedNumbers(t *testing.T) {
	cases := []struct {
		x    float64
		bits uint32
	}{
		{0, plusZero},
		{math.Copysign(0, -1), minusZero},
		{0.1, 0x3dcccccd},
		{1 + 0x1p-24, 0x3f800000},           // a tie to the even one below
		{1 + 0x1p-23 + 0x1p-24, 0x3f800002}, // a tie to the even one above
		{1 + 0x1p-24 + 0x1p-52, 0x3f800001},
		{0x1p-149, leastBits},
		{-0x1p-149, 0x80000001},
		{0x1p-150, plusZero},
		{-0x1p-150, minusZero},
		{0x1.000001p-150, leastBits},
		{0x1.fffffep-127, leastPlain}, // a tie at the end of the subnormal ones
		{0x1.fffffcp-127, mostSubBit},
		{-math.SmallestNonzeroFloat64, minusZero},
		{0x1.fffffep127, greatest},
		{0x1.fffffefffffffp127, greatest},
		{0x1.ffffffp127, plusInf},
		{-0x1.ffffffp127, minusInf},
		{math.MaxFloat64, plusInf},
		{math.Inf(-1), minusInf},
		{math.NaN(), noNumber},
	}
	for _, c := range cases {
		wantNumber(t, "NarrowNumber", impl.NarrowNumber(c.x), c.bits)
		wantPoint(t, "NarrowComplex", impl.NarrowComplex(complex(c.x, 0.5)), c.bits, 0x3f000000)
		wantPoint(t, "NarrowComplex", impl.NarrowComplex(complex(0.5, c.x)), 0x3f000000, c.bits)
	}
}

func TestComplexProducts(t *testing.T) {
	wantPoint(t, "the document's product", impl.MulComplex(1+2i, 3-1i), 0x40a00000, 0x40a00000)
	// In 32-bit numbers both products of the real part would be equal.
	wantPoint(t, "a product in 64-bit numbers", impl.MulComplex(complex(1+0x1p-12, 1), complex(1+0x1p-12, 1+0x1p-11)), 0x33800000, 0x40001000)
	wantPoint(t, "a product that is too great in the middle", impl.MulComplex(complex(0x1p100, 0x1p100), complex(0x1p100, 0x1p100)), plusZero, plusInf)
	wantPoint(t, "zeros with signs", impl.MulComplex(point(minusZero, plusZero), 1), minusZero, plusZero)
	wantPoint(t, "zeros with other signs", impl.MulComplex(point(plusZero, minusZero), 1), plusZero, plusZero)
	wantPoint(t, "subnormal numbers", impl.MulComplex(point(leastBits, 0x80000003), 1i), 0x00000003, leastBits)
	wantPoint(t, "infinities", impl.MulComplex(point(plusInf, plusZero), 2), plusInf, noNumber)
	wantPoint(t, "a scaled number", impl.ScaleComplex(complex(1.5, -3), -0.5), 0xbf400000, 0x3fc00000)
	wantPoint(t, "a scaled zero", impl.ScaleComplex(point(minusZero, plusZero), -1), plusZero, minusZero)
	wantPoint(t, "a scaled infinity", impl.ScaleComplex(point(plusInf, 0x3f800000), 0), noNumber, plusZero)
	wantPoint(t, "a scaled subnormal number", impl.ScaleComplex(point(leastBits, 0x00000003), 0.5), plusZero, 0x00000002)
	wantPoint(t, "a conjugate", impl.ConjugateOf(1+2i), 0x3f800000, 0xc0000000)
	wantPoint(t, "the conjugate of a real number", impl.ConjugateOf(point(minusZero, plusZero)), minusZero, minusZero)
	wantPoint(t, "the conjugate with -0", impl.ConjugateOf(point(plusZero, minusZero)), plusZero, plusZero)
	wantPoint(t, "the conjugate of infinities", impl.ConjugateOf(point(minusInf, minusInf)), minusInf, plusInf)
}

func TestPowersAndLengths(t *testing.T) {
	cases := []struct {
		x           complex64
		power, long uint32
	}{
		{3 + 4i, 0x41c80000, 0x40a00000},
		{point(minusZero, minusZero), plusZero, plusZero},
		{complex(1, 1), 0x40000000, 0x3fb504f3},
		{point(leastBits, plusZero), plusZero, leastBits}, // the root is not that of the narrowed power
		{point(greatest, plusZero), plusInf, greatest},
		{point(greatest, greatest), plusInf, plusInf},
		{complex(1, 0x1p-12), 0x3f800000, 0x3f800000},
		{complex(0x1p-63, 0x1p-64), 0x00a00000, 0x200f1bbd},
		{point(minusInf, 0x3f800000), plusInf, plusInf},
		{point(plusInf, noNumber), noNumber, noNumber},
	}
	for _, c := range cases {
		wantNumber(t, shown("PowerOf", c.x), impl.PowerOf(c.x), c.power)
		wantNumber(t, shown("LongOf", c.x), impl.LongOf(c.x), c.long)
	}
}

func TestQuotients(t *testing.T) {
	wantPoint(t, "the document's quotient", impl.QuotientOf(4i, 2), plusZero, 0x40000000)
	wantPoint(t, "the quotient of 5 + 5 i", impl.QuotientOf(5+5i, 3-1i), 0x3f800000, 0x40000000)
	wantPoint(t, "a quotient that is rounded", impl.QuotientOf(1, 3i), plusZero, 0xbeaaaaab)
	wantPoint(t, "a quotient of small numbers", impl.QuotientOf(point(leastBits, plusZero), point(leastBits, plusZero)), 0x3f800000, plusZero)
	wantPoint(t, "a quotient of great numbers", impl.QuotientOf(point(greatest, plusZero), point(plusZero, greatest)), plusZero, 0xbf800000)
	wantPoint(t, "a quotient that is too great", impl.QuotientOf(1i, point(leastBits, plusZero)), plusZero, plusInf)
	wantPoint(t, "a quotient with negative zeros", impl.QuotientOf(point(minusZero, minusZero), 1), minusZero, plusZero)
	wantPoint(t, "a quotient by zero", impl.QuotientOf(1+1i, 0), noNumber, noNumber)
	wantPoint(t, "zero by zero", impl.QuotientOf(0, 0), noNumber, noNumber)
	wantPoint(t, "a quotient by an infinity", impl.QuotientOf(1, point(plusInf, plusZero)), noNumber, noNumber)
}

func TestRoots(t *testing.T) {
	for bits, want := range map[uint32]uint32{0x41100000: 0x40400000, 0x40000000: 0x3fb504f3, plusZero: plusZero, minusZero: minusZero, leastBits: 0x1a3504f3, 0x80000001: noNumber, 0xbf800000: noNumber, minusInf: noNumber, plusInf: plusInf, noNumber: noNumber, greatest: 0x5f7fffff} {
		wantNumber(t, shown("RootNumber", number(bits)), impl.RootNumber(number(bits)), want)
	}
}
