package tests

import (
	"math"
	"slices"
	"testing"

	"loop.example/g01347/impl"
)

// numbers are the numbers with these bits, with spare room behind them.
func numbers(bits ...uint32) []float32 {
	list := make([]float32, len(bits), len(bits)+3)
	for i, b := range bits {
		list[i] = number(b)
	}
	return list
}

// countUp are the numbers from 0 to n - 1.
func countUp(n int) []float32 {
	return toldNumbers(n, func(i int) float32 { return float32(i) })
}

// toldNumbers are n numbers, each of which is told by its index.
func toldNumbers(n int, tell func(i int) float32) []float32 {
	list := make([]float32, n)
	for i := range list {
		list[i] = tell(i)
	}
	return list
}

// notFinite are the bits of numbers that are not finite.
var notFinite = []uint32{plusInf, minusInf, noNumber, 0xffc00000, 0x7f800001, 0xffffffff}

// notListsUpTo are no lists of 1 to most finite numbers.
func notListsUpTo(most int) map[string][]float32 {
	lists := map[string][]float32{
		"nil":                nil,
		"no numbers":         {},
		"one too many":       countUp(most + 1),
		"twice as many":      countUp(2 * most),
		"5000 numbers":       countUp(5000),
		"5000 equal numbers": repeated(float32(0), 5000),
	}
	for _, bits := range notFinite {
		what := impl.Decimal(int64(bits))
		lists["only "+what] = numbers(bits)
		lists["at first "+what] = numbers(bits, 0x3f800000, 0x40000000)
		lists["at last "+what] = append(countUp(most-1), number(bits))
	}
	return lists
}

// notLists are no lists, too short ones and too long ones among them.
func notLists() map[string][]float32 {
	return notListsUpTo(256)
}

// wrongShares are no shares; some of them are next to one.
var wrongShares = []uint32{leastBits | minusZero, 0x3f800001, 0x40000000, 0xbf800000, greatest, greatest | minusZero, plusInf, minusInf, noNumber, 0xffc00000}

func TestIsList(t *testing.T) {
	for _, list := range [][]float32{{5}, numbers(plusZero), numbers(minusZero), numbers(greatest, greatest|minusZero), numbers(leastBits, mostSubBit), countUp(256), repeated(number(greatest), 256), {3, 1, 2, 2}} {
		wantTrue(t, "IsList", impl.IsList(list))
	}
	for what, list := range notLists() {
		wantFalse(t, "IsList of "+what, impl.IsList(list))
	}
}

func TestSortedOf(t *testing.T) {
	zeros := toldNumbers(60, func(i int) float32 { return number(uint32(i%3%2) << 31) })
	rows := []struct{ list, want []float32 }{
		{[]float32{5}, []float32{5}},
		{[]float32{3, 1, 2, 4}, []float32{1, 2, 3, 4}},
		{[]float32{2, 2, 2}, []float32{2, 2, 2}},
		{[]float32{-1, -2, -1.5, -2}, []float32{-2, -2, -1.5, -1}},
		{numbers(plusZero, minusZero), numbers(plusZero, minusZero)},
		{numbers(minusZero, plusZero), numbers(minusZero, plusZero)},
		{numbers(0x3f800000, plusZero, minusZero, minusZero, 0xbf800000, plusZero), numbers(0xbf800000, plusZero, minusZero, minusZero, plusZero, 0x3f800000)},
		{numbers(greatest, leastBits, leastBits|minusZero, minusZero, greatest|minusZero), numbers(greatest|minusZero, leastBits|minusZero, minusZero, leastBits, greatest)},
		{zeros, zeros},
		{append(slices.Clone(zeros), -3), append([]float32{-3}, zeros...)},
		{toldNumbers(256, func(i int) float32 { return float32(255 - i) }), countUp(256)},
		{toldNumbers(256, func(i int) float32 { return float32(i * 77 % 256) }), countUp(256)},
	}
	for _, row := range rows {
		wantShown(t, "SortedOf", wrapped(impl.SortedOf(row.list)), row.want, true)
	}
	for what, list := range notLists() {
		wantShown(t, "SortedOf "+what, wrapped(impl.SortedOf(list)), []float32{}, false)
	}
}

func TestRankIn(t *testing.T) {
	rows := []struct {
		list []float32
		x    float32
		want int64
	}{
		{[]float32{3, 1, 2, 4}, 2.5, 2},
		{[]float32{3, 1, 2, 4}, 3, 3},
		{[]float32{3, 1, 2, 4}, 0.5, 0},
		{[]float32{3, 1, 2, 4}, 4, 4},
		{[]float32{3, 1, 2, 4}, number(greatest), 4},
		{[]float32{3, 1, 2, 4}, number(greatest | minusZero), 0},
		{[]float32{5}, 5, 1},
		{[]float32{5}, number(0x409fffff), 0},
		{[]float32{5}, number(0x40a00001), 1},
		{[]float32{2, 7, 2, 2, 1}, 2, 4},
		{[]float32{2, 7, 2, 2, 1}, 1.9, 1},
		{numbers(plusZero, minusZero, leastBits, leastBits|minusZero), number(minusZero), 3},
		{numbers(minusZero, plusZero, leastBits, leastBits|minusZero), number(plusZero), 3},
		{numbers(greatest, greatest|minusZero), number(greatest | minusZero), 1},
		{countUp(256), 254.5, 255},
		{countUp(256), 255, 256},
		{repeated(float32(9), 256), 9, 256},
	}
	for _, row := range rows {
		wantShown(t, "RankIn", wrapped(impl.RankIn(row.list, row.x)), row.want, true)
	}
	for what, list := range notLists() {
		wantShown(t, "RankIn "+what, wrapped(impl.RankIn(list, 5)), int64(0), false)
	}
	for _, bits := range notFinite {
		wantShown(t, "RankIn with no finite number", wrapped(impl.RankIn([]float32{1, 2}, number(bits))), int64(0), false)
	}
}

// sharesOf are shares, and which one of n numbers is the quantile for them.
func sharesOf(n int) map[uint32]int {
	switch n {
	case 1:
		return map[uint32]int{plusZero: 1, minusZero: 1, leastBits: 1, 0x3f000000: 1, 0x3f7fffff: 1, 0x3f800000: 1}
	case 4:
		return map[uint32]int{plusZero: 1, minusZero: 1, leastBits: 1, 0x3e7fffff: 1, 0x3e800000: 1, 0x3e800001: 2, 0x3effffff: 2, 0x3f000000: 2, 0x3f000001: 3, 0x3f400000: 3, 0x3f400001: 4, 0x3f7fffff: 4, 0x3f800000: 4}
	case 10:
		// The share next to 1/10 is greater than it, but 10 times it is rounded to 1.
		return map[uint32]int{plusZero: 1, 0x3dcccccc: 1, 0x3dcccccd: 1, 0x3dccccce: 2, 0x3e99999a: 3, 0x3e99999b: 4, 0x3f333333: 7, 0x3f333334: 8, 0x3f7fffff: 10, 0x3f800000: 10}
	case 256:
		return map[uint32]int{plusZero: 1, 0x3b800000: 1, 0x3b800001: 2, 0x3f7f0000: 255, 0x3f7f0001: 256, 0x3f7fffff: 256, 0x3f800000: 256}
	}
	return nil
}

func TestQuantileIn(t *testing.T) {
	for _, n := range []int{1, 4, 10, 256} {
		turned := countUp(n)
		slices.Reverse(turned)
		for share, k := range sharesOf(n) {
			wantShown(t, "QuantileIn", wrapped(impl.QuantileIn(turned, number(share))), float32(k-1), true)
		}
	}
	wantShown(t, "the example", wrapped(impl.QuantileIn([]float32{1, 2, 3, 4}, 0.5)), float32(2), true)
	wantShown(t, "equal numbers", wrapped(impl.QuantileIn([]float32{7, 1, 7, 7}, 0.5)), float32(7), true)
	both := numbers(0x3f800000, minusZero, plusZero, minusZero)
	wantShown(t, "the first zero", wrapped(impl.QuantileIn(both, 0.25)), number(minusZero), true)
	wantShown(t, "the second zero", wrapped(impl.QuantileIn(both, 0.5)), number(plusZero), true)
	wantShown(t, "the third zero", wrapped(impl.QuantileIn(both, 0.75)), number(minusZero), true)
	for what, list := range notLists() {
		wantShown(t, "QuantileIn "+what, wrapped(impl.QuantileIn(list, 0.5)), float32(0), false)
	}
	for _, bits := range wrongShares {
		wantShown(t, "QuantileIn with no share", wrapped(impl.QuantileIn([]float32{1, 2}, number(bits))), float32(0), false)
	}
	wantShown(t, "many not-a-numbers", wrapped(impl.QuantileIn(repeated(float32(math.NaN()), 9), 1)), float32(0), false)
}
