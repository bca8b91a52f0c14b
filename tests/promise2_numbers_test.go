package tests

import (
	"testing"

	"loop.example/g01347/impl"
)

func TestPromise2BitsAreKept(t *testing.T) {
	edges := []int64{plusZero, leastBits, mostSubBit, leastPlain, 0x3f800000, greatest, plusInf, minusZero, 0x80000001, 0xff7fffff, minusInf}
	for n := int64(0); n < 1<<32; n += 65521 {
		edges = append(edges, n)
	}
	for _, n := range edges {
		x, ok := impl.FromBits(n)
		if !ok || impl.BitsOf(x) != int64(bitsOf(number(uint32(n)))) {
			t.Fatalf("bits %08x: got %v, %v with bits %08x", n, x, ok, impl.BitsOf(x))
		}
		if x != x != (n&0x7fffffff > plusInf) {
			t.Fatalf("bits %08x: got %v", n, x)
		}
	}
}

func TestPromise2BitsOfNotNumbers(t *testing.T) {
	for _, n := range []int64{0x7f800001, 0x7fbfffff, 0x7fc00000, 0x7fffffff, 0xff800001, 0xffc00000, 0xffffffff} {
		x, ok := impl.FromBits(n)
		if !ok || x == x || impl.BitsOf(x) != 2143289344 {
			t.Errorf("bits %08x: got %v, %v with bits %d", n, x, ok, impl.BitsOf(x))
		}
	}
	for _, n := range []int64{-1, 1 << 32, 1<<32 + 5, -1 << 63, 1<<63 - 1} {
		if x, ok := impl.FromBits(n); ok || impl.BitsOf(x) != 0 {
			t.Errorf("FromBits %d: got %v, %v", n, x, ok)
		}
	}
}

func TestPromise2SameMeansEqualBits(t *testing.T) {
	list := append(awkwardNumbers(0), awkwardNumbers(5)...)
	for _, a := range list {
		for _, b := range list {
			same := bitsOf(a) == bitsOf(b)
			if impl.SameNumber(a, b) != same {
				t.Errorf("SameNumber of %08x and %08x: got %v", bitsOf(a), bitsOf(b), !same)
			}
			if impl.SameComplex(complex(a, 1), complex(b, 1)) != same || impl.SameComplex(complex(1, a), complex(1, b)) != same {
				t.Errorf("SameComplex with parts %08x and %08x: want %v", bitsOf(a), bitsOf(b), same)
			}
			one, _ := impl.ComplexText([]complex64{complex(a, b)})
			two, _ := impl.ComplexText([]complex64{complex(b, a)})
			if (one == two) != impl.SameComplex(complex(a, b), complex(b, a)) {
				t.Errorf("texts %s and %s", one, two)
			}
		}
	}
	wantFalse(t, "SameNumber of both zeros", impl.SameNumber(0, number(minusZero)))
	wantTrue(t, "SameNumber of not-a-numbers", impl.SameNumber(number(0x7f800001), number(0xffffffff)))
	wantFalse(t, "SameComplex of both zeros", impl.SameComplex(0, point(plusZero, minusZero)))
	wantTrue(t, "SameComplex of not-a-numbers", impl.SameComplex(point(0x7f800001, 1), point(0xffffffff, 1)))
}

func TestPromise2ProductsOfSmallIntegersAreExact(t *testing.T) {
	const most = 12
	for a := -most; a <= most; a++ {
		for b := -most; b <= most; b++ {
			x := complex(float32(a), float32(b))
			if got := impl.PowerOf(x); got != float32(a*a+b*b) {
				t.Fatalf("PowerOf %v: got %v", x, got)
			}
			if got, ok := impl.DotNumbers([]float32{float32(a), 5}, []float32{float32(b), -3}); !ok || got != float32(a*b-15) {
				t.Fatalf("DotNumbers with %v: got %v, %v", x, got, ok)
			}
			if got := impl.ScaleComplex(x, -7); got != complex(float32(-7*a), float32(-7*b)) {
				t.Fatalf("ScaleComplex %v: got %v", x, got)
			}
			for c := -most; c <= most; c++ {
				for d := -most; d <= most; d++ {
					wantSmallProducts(t, a, b, c, d)
				}
			}
		}
	}
}

func wantSmallProducts(t *testing.T, a, b, c, d int) {
	t.Helper()
	x, y := complex(float32(a), float32(b)), complex(float32(c), float32(d))
	product := complex(float32(a*c-b*d), float32(a*d+b*c))
	with := complex(float32(a*c+b*d), float32(a*d-b*c))
	if got := impl.MulComplex(x, y); got != product {
		t.Fatalf("MulComplex %v, %v: got %v", x, y, got)
	}
	if got, ok := impl.DotComplex([]complex64{x, 1}, []complex64{y, 2}); !ok || got != product+2 {
		t.Fatalf("DotComplex with %v, %v: got %v, %v", x, y, got, ok)
	}
	if got, ok := impl.DotConjugate([]complex64{x, 1i}, []complex64{y, 2i}); !ok || got != with+2 {
		t.Fatalf("DotConjugate with %v, %v: got %v, %v", x, y, got, ok)
	}
	if got := impl.QuotientOf(product, y); y != 0 && got != x {
		t.Fatalf("QuotientOf %v, %v: got %v", product, y, got)
	}
}
