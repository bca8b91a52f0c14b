package tests

import (
	"testing"

	"loop.example/g01347/impl"
)

func wantSum(t *testing.T, what string, bits uint32) func(float32, bool) {
	return func(got float32, ok bool) {
		t.Helper()
		wantTrue(t, what, ok)
		wantNumber(t, what, got, bits)
	}
}

func wantTotal(t *testing.T, what string, re, im uint32) func(complex64, bool) {
	return func(got complex64, ok bool) {
		t.Helper()
		wantTrue(t, what, ok)
		wantPoint(t, what, got, re, im)
	}
}

func TestSumsOfNumbers(t *testing.T) {
	wantSum(t, "nil", plusZero)(impl.SumNumbers(nil))
	wantSum(t, "empty", plusZero)(impl.SumNumbers([]float32{}))
	wantSum(t, "the sum of -0", plusZero)(impl.SumNumbers([]float32{number(minusZero)}))
	wantSum(t, "1, 2, 3.5", 0x40d00000)(impl.SumNumbers([]float32{1, 2, 3.5}))
	wantSum(t, "a lost number", plusZero)(impl.SumNumbers([]float32{1e8, 1, -1e8}))
	wantSum(t, "a kept number", 0x3f800000)(impl.SumNumbers([]float32{1e8, -1e8, 1}))
	wantSum(t, "subnormal numbers", 0x00000003)(impl.SumNumbers([]float32{number(leastBits), number(0x00000002)}))
	wantSum(t, "too great", plusInf)(impl.SumNumbers([]float32{number(greatest), number(greatest), -number(greatest)}))
	wantSum(t, "both infinities", noNumber)(impl.SumNumbers([]float32{number(plusInf), number(minusInf)}))
	wantSum(t, "256 of them", 0x44000000)(impl.SumNumbers(repeated(float32(2), 256)))
	_, ok := impl.SumNumbers(repeated(float32(2), 257))
	wantFalse(t, "257 of them", ok)
}

func TestProductsOfLists(t *testing.T) {
	small := float32(1 + 0x1p-12)
	wantSum(t, "nil and empty", plusZero)(impl.DotNumbers(nil, []float32{}))
	wantSum(t, "1 3 + 2 4", 0x41300000)(impl.DotNumbers([]float32{1, 2}, []float32{3, 4}))
	wantSum(t, "a product of -0", plusZero)(impl.DotNumbers([]float32{number(minusZero)}, []float32{1}))
	// The square is 1 + 2^-11 + 2^-24, of which the last part is rounded away before the sum.
	wantSum(t, "a rounded product", plusZero)(impl.DotNumbers([]float32{-1, small}, []float32{1 + 0x1p-11, small}))
	wantSum(t, "from left to right", plusZero)(impl.DotNumbers([]float32{1e4, 1, -1e4}, []float32{1e4, 1, 1e4}))
	wantSum(t, "a product that is too great", plusInf)(impl.DotNumbers([]float32{1e30, -1e30}, []float32{1e30, 1}))
	wantSum(t, "256 of them", 0x44800000)(impl.DotNumbers(repeated(float32(2), 256), repeated(float32(2), 256)))
	_, one := impl.DotNumbers(repeated(float32(2), 257), repeated(float32(2), 257))
	_, two := impl.DotNumbers([]float32{1}, nil)
	_, three := impl.DotNumbers(nil, []float32{1})
	wantFalse(t, "257 of them", one)
	wantFalse(t, "a longer first list", two)
	wantFalse(t, "a longer second list", three)
}

func TestSumsOfComplexNumbers(t *testing.T) {
	wantTotal(t, "nil", plusZero, plusZero)(impl.SumComplex(nil))
	wantTotal(t, "zeros with signs", plusZero, plusZero)(impl.SumComplex([]complex64{point(minusZero, minusZero)}))
	wantTotal(t, "1 and 2 + 3 i", 0x40400000, 0x40400000)(impl.SumComplex([]complex64{1, 2 + 3i}))
	wantTotal(t, "from left to right", plusZero, 0x3f800000)(impl.SumComplex([]complex64{1e8 + 1e8i, 1 - 1e8i, -1e8 + 1i}))
	wantTotal(t, "256 of them", 0x43800000, 0x44000000)(impl.SumComplex(repeated(complex64(1+2i), 256)))
	_, ok := impl.SumComplex(repeated(complex64(1), 257))
	wantFalse(t, "257 of them", ok)
}

func TestProductsOfComplexLists(t *testing.T) {
	small := float32(1 + 0x1p-12)
	a, b := []complex64{1i, 1 + 2i}, []complex64{1i, 3 - 1i}
	wantTotal(t, "nil and empty", plusZero, plusZero)(impl.DotComplex(nil, []complex64{}))
	wantTotal(t, "i i + 5 + 5 i", 0x40800000, 0x40a00000)(impl.DotComplex(a, b))
	// Each product is narrowed before it is added.
	wantTotal(t, "narrowed products", plusZero, plusZero)(impl.DotComplex([]complex64{-1, complex(small, 0)}, []complex64{1 + 0x1p-11, complex(small, 0)}))
	wantTotal(t, "nil and empty, conjugated", plusZero, plusZero)(impl.DotConjugate(nil, []complex64{}))
	wantTotal(t, "1 + (1 - 2 i) (3 - i)", 0x40000000, 0xc0e00000)(impl.DotConjugate(a, b))
	wantTotal(t, "narrowed products, conjugated", plusZero, plusZero)(impl.DotConjugate([]complex64{-1, complex(small, 0)}, []complex64{1 + 0x1p-11, complex(small, 0)}))
	many, more := repeated(complex64(2i), 256), repeated(complex64(2i), 257)
	wantTotal(t, "256 of them", 0xc4800000, plusZero)(impl.DotComplex(many, many))
	wantTotal(t, "256 of them, conjugated", 0x44800000, plusZero)(impl.DotConjugate(many, many))
	for _, pair := range [][2][]complex64{{more, more}, {many, more}, {more, many}, {a, nil}, {nil, a}} {
		_, one := impl.DotComplex(pair[0], pair[1])
		_, two := impl.DotConjugate(pair[0], pair[1])
		wantFalse(t, "DotComplex of other lengths", one)
		wantFalse(t, "DotConjugate of other lengths", two)
	}
}

func TestSumsOfPowers(t *testing.T) {
	wantSum(t, "nil", plusZero)(impl.PowersOf(nil))
	wantSum(t, "zeros with signs", plusZero)(impl.PowersOf([]complex64{point(minusZero, minusZero)}))
	wantSum(t, "3 + 4 i and 1", 0x41d00000)(impl.PowersOf([]complex64{3 + 4i, 1}))
	// The two last powers, 2^-24 each, would be lost one by one in 32-bit numbers.
	wantSum(t, "small powers", 0x3f800001)(impl.PowersOf([]complex64{1, 0x1p-12, 0x1p-12i}))
	wantSum(t, "too great", plusInf)(impl.PowersOf([]complex64{point(greatest, plusZero)}))
	wantSum(t, "a not-a-number", noNumber)(impl.PowersOf([]complex64{1, point(plusInf, noNumber)}))
	wantSum(t, "256 of them", 0x44800000)(impl.PowersOf(repeated(complex64(2i), 256)))
	_, ok := impl.PowersOf(repeated(complex64(2i), 257))
	wantFalse(t, "257 of them", ok)
}
