package tests

import (
	"math"
	"strings"
	"testing"

	"loop.example/g01347/impl"
)

// awkwardNumbers has the edge cases; payload tells which of the not-a-numbers it has.
func awkwardNumbers(payload uint32) []float32 {
	list := []float32{}
	for _, bits := range []uint32{plusZero, leastBits, 0x00000007, mostSubBit, leastPlain, 0x3e800000, 0x3f000000, 0x3f3fffff, 0x3f400000, 0x3f800000, 0x3fbfffff, 0x3fc00000, 0x43480000, 0x43480001, 0x4b000000, 0x597fffff, 0x59800000, 0x5f000000, 0x5f800000, greatest, plusInf, noNumber | payload} {
		list = append(list, number(bits), number(bits|minusZero))
	}
	return list
}

func awkwardComplex(payload uint32) []complex64 {
	list := []complex64{}
	numbers := awkwardNumbers(payload)
	for i, x := range numbers {
		list = append(list, complex(x, numbers[len(numbers)-1-i]), complex(x, x), complex(x, 0), complex(0, x))
	}
	return list
}

func awkwardIntegers() []int64 {
	return []int64{0, 1, -1, 9, 65002, 65003, 1<<32 - 1, 1 << 32, impl.MaxValue, impl.MaxValue + 1, -impl.MaxValue, -impl.MaxValue - 1, math.MaxInt64, math.MinInt64}
}

func awkwardTexts() []string {
	return []string{"", "none", "None", "none,", ",", ",,", "0", "-0", "+0", "00", "-", "1,2", "1,,2", "1,2,", " 1", "1 ", "1000000000000000", "1000000000000001", "-1000000000000000", "-1000000000000001", "9223372036854775807", "9223372036854775808", "99999999999999999999999999", "3f800000", "3F800000", "3f80000", "3f8000000", "3f800000,", "3f80000000000000", "3f80000000000000,00000000c0000000", "7fc00000", "7fc00001", "ffc00000", "7f8000007fc00001", "0x000001", "1_000", "abcdefgh", "abcdefghi", "aB", "\xff", "\x00", "a\xffb", "é", "１", "\n", strings.Repeat("9", 5000), strings.Repeat("1,", 5000), strings.Repeat(",", 5000), strings.Repeat("0", 8*5000), strings.Repeat("\xff", 5000)}
}

// onePointResults has a line for each function of numbers and complex numbers.
func onePointResults(payload uint32) []string {
	lines := []string{}
	for _, x := range awkwardNumbers(payload) {
		tenths, ok := impl.TenthsOf(x)
		lines = append(lines, shown("one", impl.IsFinite(x), impl.BitsOf(x), impl.NarrowNumber(float64(x)), impl.IsSubnormal(x), impl.FlushNumber(x), impl.PhasorOf(float64(x)), impl.SineTurns(x), tenths, ok, impl.RootNumber(x), impl.ExpNumber(x), impl.LogNumber(x)))
		for _, y := range awkwardNumbers(payload) {
			lines = append(lines, shown("two", impl.SameNumber(x, y), impl.AngleTurns(y, x), impl.NarrowComplex(complex(float64(x), float64(y)))))
		}
	}
	for _, x := range awkwardComplex(payload) {
		lines = append(lines, shown("point", impl.IsFiniteComplex(x), impl.ConjugateOf(x), impl.PowerOf(x), impl.LongOf(x), impl.AngleOf(x)))
		for _, y := range awkwardComplex(payload) {
			lines = append(lines, shown("points", impl.SameComplex(x, y), impl.MulComplex(x, y), impl.QuotientOf(x, y), impl.ScaleComplex(x, real(y))))
		}
	}
	for _, x := range []float64{math.MaxFloat64, -math.MaxFloat64, math.SmallestNonzeroFloat64, -math.SmallestNonzeroFloat64, 1<<53 + 2, 1<<52 - 0.5, -1<<52 + 0.5, 1 << 63, -1 << 63, 1 << 64, 0x1.fffffefffffffp127, 0x1.ffffffp127} {
		lines = append(lines, shown("wide", impl.NarrowNumber(x), impl.NarrowComplex(complex(x, -x)), impl.PhasorOf(x)))
	}
	return lines
}

// listResults has a line for each function of lists, texts and integers.
func listResults(payload uint32) []string {
	lines := []string{}
	numbers := [][]float32{nil, {}, awkwardNumbers(payload), repeated(float32(2), 256), repeated(float32(2), 257), repeated(number(greatest), 256)}
	for _, a := range numbers {
		sum, one := impl.SumNumbers(a)
		text, two := impl.NumbersText(a)
		lines = append(lines, shown("numbers", sum, one, text, two))
		for _, b := range numbers {
			dot, ok := impl.DotNumbers(a, b)
			lines = append(lines, shown("dot", dot, ok))
		}
	}
	points := [][]complex64{nil, {}, awkwardComplex(payload), repeated(complex64(2i), 256), repeated(complex64(2i), 257), repeated(point(greatest, greatest), 256)}
	for _, a := range points {
		sum, one := impl.SumComplex(a)
		powers, two := impl.PowersOf(a)
		text, three := impl.ComplexText(a)
		lines = append(lines, shown("points", sum, one, powers, two, text, three))
		for _, b := range points {
			dot, one := impl.DotComplex(a, b)
			with, two := impl.DotConjugate(a, b)
			lines = append(lines, shown("dots", dot, one, with, two))
		}
	}
	for _, n := range awkwardIntegers() {
		x, one := impl.FromBits(n)
		check, two := impl.CheckOf(n, "a\xff\x00")
		text, three := impl.ListText([]int64{n})
		lines = append(lines, shown("integer", x, one, check, two, text, three, impl.Decimal(n)))
	}
	for _, s := range awkwardTexts() {
		a, one := impl.ReadNumbers(s)
		b, two := impl.ReadComplex(s)
		n, three := impl.ReadDecimal(s)
		list, four := impl.ReadList(s)
		check, five := impl.CheckOf(0, s)
		lines = append(lines, shown("text", a, one, b, two, n, three, list, four, check, five, impl.IsName(s)))
	}
	return lines
}

func TestPromise1NumbersReturnEqualResults(t *testing.T) {
	for _, results := range []func(uint32) []string{onePointResults, listResults} {
		first := results(0)
		for _, payload := range []uint32{0, 1, 0x3fffff} {
			again := results(payload)
			for i := range first {
				if again[i] != first[i] {
					t.Errorf("payload %x: %s then %s", payload, first[i], again[i])
				}
			}
		}
	}
}

// wantKept checks that a call changes neither the list nor the room behind it.
func wantKept[T any](t *testing.T, what string, value, other T, call func(list []T)) {
	t.Helper()
	list := []T{value, other, value, other, other}
	before := shown(list[0], list[1], list[2], list[3], list[4])
	call(list[:3])
	if after := shown(list[0], list[1], list[2], list[3], list[4]); after != before {
		t.Errorf("%s: %s became %s", what, before, after)
	}
}

func TestPromise1NumbersKeepArguments(t *testing.T) {
	wantKept(t, "SumNumbers", number(leastBits), 7, func(list []float32) { impl.SumNumbers(list) })
	wantKept(t, "DotNumbers", number(leastBits), 7, func(list []float32) { impl.DotNumbers(list, list) })
	wantKept(t, "NumbersText", number(minusZero), 7, func(list []float32) { impl.NumbersText(list) })
	wantKept(t, "SumComplex", point(minusZero, leastBits), 7, func(list []complex64) { impl.SumComplex(list) })
	wantKept(t, "DotComplex", point(minusZero, leastBits), 7, func(list []complex64) { impl.DotComplex(list, list) })
	wantKept(t, "DotConjugate", point(minusZero, leastBits), 7, func(list []complex64) { impl.DotConjugate(list, list) })
	wantKept(t, "PowersOf", point(minusZero, leastBits), 7, func(list []complex64) { impl.PowersOf(list) })
	wantKept(t, "ComplexText", point(minusZero, leastBits), 7, func(list []complex64) { impl.ComplexText(list) })
	wantKept(t, "ListText", int64(3), 7, func(list []int64) { impl.ListText(list) })
	wantKept(t, "ListText that fails", int64(impl.MaxValue+1), 7, func(list []int64) { impl.ListText(list) })
}

func TestPromise1NumbersReturnNewLists(t *testing.T) {
	a, _ := impl.ReadNumbers("3f800000,40000000")
	a[0] = 9
	if b, ok := impl.ReadNumbers("3f800000,40000000"); !ok || b[0] != 1 || b[1] != 2 {
		t.Errorf("ReadNumbers: got %v after a change of another result", b)
	}
	c, _ := impl.ReadComplex("3f80000040000000")
	c[0] = 9
	if d, ok := impl.ReadComplex("3f80000040000000"); !ok || d[0] != 1+2i {
		t.Errorf("ReadComplex: got %v after a change of another result", d)
	}
	e, _ := impl.ReadList("1,2")
	e[0] = 9
	if f, ok := impl.ReadList("1,2"); !ok || f[0] != 1 || f[1] != 2 {
		t.Errorf("ReadList: got %v after a change of another result", f)
	}
}

func TestPromise1NumbersFailWithZeroValues(t *testing.T) {
	two := func(v any, ok bool) string { return shown(v, ok) }
	long := repeated(float32(2), impl.MaxNumbers+1)
	wide := repeated(complex64(2), impl.MaxNumbers+1)
	noFloat, noPoint := shown(float32(0), false), shown(complex64(0), false)
	wantSame(t, "FromBits", wrapped(impl.FromBits(-1)), noFloat)
	wantSame(t, "TenthsOf", wrapped(impl.TenthsOf(-2)), two(0, false))
	wantSame(t, "SumNumbers", wrapped(impl.SumNumbers(long)), noFloat)
	wantSame(t, "DotNumbers, long", wrapped(impl.DotNumbers(long, long)), noFloat)
	wantSame(t, "DotNumbers, other lengths", wrapped(impl.DotNumbers(long[:2], long[:3])), noFloat)
	wantSame(t, "SumComplex", wrapped(impl.SumComplex(wide)), noPoint)
	wantSame(t, "DotComplex, long", wrapped(impl.DotComplex(wide, wide)), noPoint)
	wantSame(t, "DotComplex, other lengths", wrapped(impl.DotComplex(wide[:3], wide[:2])), noPoint)
	wantSame(t, "DotConjugate, long", wrapped(impl.DotConjugate(wide, wide)), noPoint)
	wantSame(t, "DotConjugate, other lengths", wrapped(impl.DotConjugate(wide[:2], wide[:3])), noPoint)
	wantSame(t, "PowersOf", wrapped(impl.PowersOf(wide)), noFloat)
	wantSame(t, "NumbersText", wrapped(impl.NumbersText(long)), two("", false))
	wantSame(t, "ComplexText", wrapped(impl.ComplexText(wide)), two("", false))
	wantSame(t, "ReadNumbers", wrapped(impl.ReadNumbers("3f800000,x")), two([]float32{}, false))
	wantSame(t, "ReadComplex", wrapped(impl.ReadComplex("3f80000000000000,x")), two([]complex64{}, false))
	wantSame(t, "ReadDecimal", wrapped(impl.ReadDecimal("1000000000000001")), two(0, false))
	wantSame(t, "ListText", wrapped(impl.ListText([]int64{1, impl.MaxValue + 1})), two("", false))
	wantSame(t, "ReadList", wrapped(impl.ReadList("1,x")), two([]int64{}, false))
	wantSame(t, "CheckOf", wrapped(impl.CheckOf(impl.CheckSize, "a")), two(0, false))
}

// wrapped shows a result and whether the call succeeded.
func wrapped[T any](value T, ok bool) string {
	return shown(value, ok)
}
