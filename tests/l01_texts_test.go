package tests

import (
	"math"
	"slices"
	"strings"
	"testing"

	"loop.example/g01347/impl"
)

func wantText(t *testing.T, what, want string) func(string, bool) {
	return func(got string, ok bool) {
		t.Helper()
		if !ok || got != want {
			t.Errorf("%s: got %q, %v, want %q", what, got, ok, want)
		}
	}
}

func TestTextsOfNumbers(t *testing.T) {
	wantText(t, "nil", "none")(impl.NumbersText(nil))
	wantText(t, "empty", "none")(impl.NumbersText([]float32{}))
	wantText(t, "zeros", "00000000,80000000")(impl.NumbersText([]float32{0, number(minusZero)}))
	wantText(t, "edges", "00000001,7f800000,ff800000,7fc00000,7fc00000")(impl.NumbersText([]float32{number(leastBits), number(plusInf), number(minusInf), number(noNumber), number(0xff800001)}))
	wantText(t, "256 of them", strings.Repeat("3f800000,", 255)+"3f800000")(impl.NumbersText(repeated(float32(1), 256)))
	_, ok := impl.NumbersText(repeated(float32(1), 257))
	wantFalse(t, "257 of them", ok)
	wantText(t, "complex nil", "none")(impl.ComplexText(nil))
	wantText(t, "the document's text", "3f80000000000000")(impl.ComplexText([]complex64{1}))
	wantText(t, "complex edges", "80000000ff800000,7fc0000000000001")(impl.ComplexText([]complex64{point(minusZero, minusInf), point(0xffffffff, leastBits)}))
	wantText(t, "256 complex ones", strings.Repeat("000000003f800000,", 255)+"000000003f800000")(impl.ComplexText(repeated(complex64(1i), 256)))
	_, ok = impl.ComplexText(repeated(complex64(1i), 257))
	wantFalse(t, "257 complex ones", ok)
}

func TestReadNumbers(t *testing.T) {
	lists := [][]float32{{}, {1}, {0, number(minusZero)}, {number(leastBits), number(mostSubBit), number(greatest), number(plusInf), number(minusInf), number(noNumber)}, repeated(float32(-2.5), 256)}
	for _, list := range lists {
		text, _ := impl.NumbersText(list)
		got, ok := impl.ReadNumbers(text)
		if !ok || shown(got) != shown(list) {
			t.Errorf("ReadNumbers %q: got %v, %v", text, got, ok)
		}
	}
	for _, s := range nearlyRight(8) {
		if got, ok := impl.ReadNumbers(s); ok || len(got) != 0 {
			t.Errorf("ReadNumbers %q: got %v, %v", s, got, ok)
		}
	}
	_, ok := impl.ReadNumbers(strings.Repeat("3f800000,", 256) + "3f800000")
	wantFalse(t, "257 numbers", ok)
}

func TestReadComplex(t *testing.T) {
	lists := [][]complex64{{}, {1}, {point(plusZero, minusZero), point(minusZero, plusZero)}, {point(leastBits, greatest), point(minusInf, noNumber)}, repeated(complex64(-2.5+1i), 256)}
	for _, list := range lists {
		text, _ := impl.ComplexText(list)
		got, ok := impl.ReadComplex(text)
		if !ok || shown(got) != shown(list) {
			t.Errorf("ReadComplex %q: got %v, %v", text, got, ok)
		}
	}
	for _, s := range append(nearlyRight(16), "3f800000", "3f800000,00000000", "3f8000007f800001", "7f8000013f800000", "3f800000ffc00000") {
		if got, ok := impl.ReadComplex(s); ok || len(got) != 0 {
			t.Errorf("ReadComplex %q: got %v, %v", s, got, ok)
		}
	}
	_, ok := impl.ReadComplex(strings.Repeat("3f80000000000000,", 256) + "3f80000000000000")
	wantFalse(t, "257 complex numbers", ok)
}

// nearlyRight has texts that are nearly those of lists of numbers with so many digits.
func nearlyRight(digits int) []string {
	one := "3f800000" + strings.Repeat("0", digits-8)
	rest := one[1:]
	return []string{"", ",", "None", "none,", ",none", "none," + one, one + ",none", one + ",", "," + one, one + ",," + one, one + " ", " " + one, one + ", " + one, one + ";" + one, one + one, one + "0", "0" + one, rest, "3F" + one[2:], "3A" + one[2:], one[:7] + "g" + one[8:], one[:7] + "/" + one[8:], one[:7] + ":" + one[8:], one[:7] + "`" + one[8:], "g" + rest, "`" + rest, "/" + rest, ":" + rest, "-" + rest, "+" + rest, "_" + rest, "0x" + one[2:], "\xff" + rest, "\x00" + rest, "é" + one[2:], one[:7] + "\n" + one[8:], "7fc00001" + one[8:], "ffc00000" + one[8:], "7f800001" + one[8:], "ffffffff" + one[8:]}
}

func TestNames(t *testing.T) {
	for _, s := range []string{"a", "z", "ring", "abcdefgh"} {
		wantTrue(t, s, impl.IsName(s))
	}
	for _, s := range []string{"", "abcdefghi", "A", "aB", "a b", "a1", "_", "`", "{", "é", "\xff", "a\x00", "ａ"} {
		wantFalse(t, s, impl.IsName(s))
	}
}

func TestDecimals(t *testing.T) {
	for n, want := range map[int64]string{0: "0", 7: "7", -4: "-4", 100: "100", math.MaxInt64: "9223372036854775807", math.MinInt64: "-9223372036854775808"} {
		if got := impl.Decimal(n); got != want {
			t.Errorf("Decimal %d: got %q", n, got)
		}
	}
	for _, n := range []int64{0, 1, -1, 9, 10, -10, 123456789, impl.MaxValue, -impl.MaxValue, impl.MaxValue - 1} {
		if got, ok := impl.ReadDecimal(impl.Decimal(n)); !ok || got != n {
			t.Errorf("ReadDecimal of %d: got %d, %v", n, got, ok)
		}
	}
	for _, s := range []string{"", "-", "+1", "-0", "+0", "00", "01", "-01", "1 ", " 1", "1.0", "1e3", "1_000", "0x1", "--1", "1-", "one", "none", "１", "1\n", "1\x00", "1000000000000001", "-1000000000000001", "9223372036854775808", "18446744073709551617", strings.Repeat("0", 400)} {
		if got, ok := impl.ReadDecimal(s); ok || got != 0 {
			t.Errorf("ReadDecimal %q: got %d, %v", s, got, ok)
		}
	}
}

func TestTextsOfLists(t *testing.T) {
	wantText(t, "nil", "none")(impl.ListText(nil))
	wantText(t, "empty", "none")(impl.ListText([]int64{}))
	wantText(t, "limits", "1000000000000000,-1000000000000000,0")(impl.ListText([]int64{impl.MaxValue, -impl.MaxValue, 0}))
	wantText(t, "64 of them", strings.Repeat("-5,", 63)+"-5")(impl.ListText(repeated(int64(-5), 64)))
	for _, list := range [][]int64{repeated(int64(5), 65), {impl.MaxValue + 1}, {1, -impl.MaxValue - 1}, {math.MinInt64}} {
		if got, ok := impl.ListText(list); ok || got != "" {
			t.Errorf("ListText %v: got %q, %v", list, got, ok)
		}
	}
	for _, list := range [][]int64{{}, {0}, {3, 3, -3}, {impl.MaxValue, -impl.MaxValue}, repeated(int64(12), 64)} {
		text, _ := impl.ListText(list)
		if got, ok := impl.ReadList(text); !ok || !slices.Equal(got, list) {
			t.Errorf("ReadList %q: got %v, %v", text, got, ok)
		}
	}
	for _, s := range []string{"", ",", "None", "none,", "none,1", "1,none", "1,", ",1", "1,,2", "1, 2", "1;2", "01", "1,-0", "1,+2", "1000000000000001", strings.Repeat("5,", 64) + "5"} {
		if got, ok := impl.ReadList(s); ok || len(got) != 0 {
			t.Errorf("ReadList %q: got %v, %v", s, got, ok)
		}
	}
}

func TestCheckNumbers(t *testing.T) {
	cases := []struct {
		start int64
		s     string
		want  int64
	}{
		{0, "", 0},
		{65002, "", 65002},
		{0, "a", 270},
		{0, "\x00", 173},
		{0, "\xff", 428},
		{65002, "\x00", 64289},       // -887 plus 173, as a remainder
		{0, "ab", 239761 - 3*65003},  // 887 times 270, plus 98 and 173
		{1, "é", 8476},               // two bytes, 0xc3 and 0xa9
		{0, "\xff\xfe\x00\n", 14706}, // bytes that are no runes
	}
	for _, c := range cases {
		if got, ok := impl.CheckOf(c.start, c.s); !ok || got != c.want {
			t.Errorf("CheckOf %d, %q: got %d, %v, want %d", c.start, c.s, got, ok, c.want)
		}
	}
	for _, start := range []int64{-1, 65003, math.MaxInt64, math.MinInt64} {
		if got, ok := impl.CheckOf(start, "a"); ok || got != 0 {
			t.Errorf("CheckOf %d: got %d, %v", start, got, ok)
		}
	}
	half, _ := impl.CheckOf(9, "one ")
	whole, _ := impl.CheckOf(9, "one two")
	if got, ok := impl.CheckOf(half, "two"); !ok || got != whole {
		t.Errorf("CheckOf in two parts: got %d, %v, want %d", got, ok, whole)
	}
}
