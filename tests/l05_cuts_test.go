package tests

import (
	"math"
	"testing"

	"loop.example/g01347/impl"
)

// shownCuts shows what BestCuts returns.
func shownCuts(list []float32, parts int64) string {
	cuts, sum, ok := impl.BestCuts(list, parts)
	return shown(cuts, sum, ok)
}

// allBut are the numbers from 1 to n - 1 without some.
func allBut(n int64, left ...int64) []int64 {
	list := []int64{}
	for i := int64(1); i < n; i++ {
		if len(left) > 0 && left[0] == i {
			left = left[1:]
			continue
		}
		list = append(list, i)
	}
	return list
}

// wrongParts are no numbers of parts for n numbers.
func wrongParts(n int) []int64 {
	return []int64{0, -1, int64(n) + 1, math.MaxInt64, math.MinInt64}
}

func TestBestCuts(t *testing.T) {
	rows := []struct {
		list  []float32
		parts int64
		cuts  []int64
		sum   uint32
	}{
		{[]float32{1, 1, 5, 5}, 2, []int64{2}, plusZero},
		{[]float32{5}, 1, nil, plusZero},
		{[]float32{1, 2, 3}, 1, nil, 0x40000000},
		{[]float32{1, 2, 3}, 3, []int64{1, 2}, plusZero},
		{[]float32{5, 1, 5, 1}, 2, []int64{1}, 0x412aaaaa},
		{[]float32{1, 2, 3, 4, 5, 6}, 2, []int64{3}, 0x40800000},
		{[]float32{1, 2, 3, 4, 5, 6}, 3, []int64{2, 4}, 0x3fc00000},
		{[]float32{0, 10, 11, 20, 21, 22, 50}, 3, []int64{3, 6}, 0x42980000},
		{[]float32{0, 10, 11, 20, 21, 22, 50}, 4, []int64{1, 3, 6}, 0x40200000},
		{[]float32{-3, -3, 4}, 2, []int64{2}, plusZero},
		{numbers(minusZero), 1, nil, plusZero},
		{numbers(minusZero, plusZero, minusZero), 1, nil, plusZero},
		// Several cuts are equally good.
		{[]float32{1, 2, 3}, 2, []int64{1}, 0x3f000000},
		{[]float32{7, 7, 7, 7}, 2, []int64{1}, plusZero},
		{[]float32{7, 7, 7, 7}, 3, []int64{1, 2}, plusZero},
		{[]float32{7, 7, 7, 7}, 4, []int64{1, 2, 3}, plusZero},
		{[]float32{5, 1, 5, 1}, 3, []int64{1, 2}, 0x41000000},
		{[]float32{1, 2, 3, 4, 5, 6}, 4, []int64{1, 2, 4}, 0x3f800000},
		{[]float32{1, 9, 1, 9, 1}, 2, []int64{1}, 0x42800000},
		{repeated(float32(7), 64), 1, nil, plusZero},
		{repeated(float32(7), 64), 64, upTo(64)[1:], plusZero},
		{repeated(float32(7), 64), 5, []int64{1, 2, 3, 4}, plusZero},
		// Rounded as such, the error would be less than 0, or is greater.
		{repeated(number(0x41c477ce), 7), 1, nil, plusZero},
		{repeated(number(0x423fb9a7), 7), 1, nil, 0x3b000000},
		{repeated(number(0x423fb9a7), 7), 2, []int64{2}, plusZero},
		// Rounding less often, or in another order, gives other cuts.
		{numbers(0x447b7673, 0x447b75ec, 0x447c42b0, 0x447bb478, 0x447c5286, 0x447c2419), 3, []int64{2, 3}, 0x40300000},
		{numbers(0x447c658b, 0x447c3ddd, 0x447af1c9, 0x447b26aa, 0x447b4cd9, 0x447b9c17), 3, []int64{2, 4}, 0x3fa00000},
		{numbers(0x447c0876, 0x447ba7de, 0x447c37e6, 0x447bfb2e, 0x447bab3d, 0x447bd597), 3, []int64{2, 3}, 0x3fd00000},
	}
	for _, row := range rows {
		wantShown(t, "BestCuts "+shown(row.list, row.parts), shownCuts(row.list, row.parts), row.cuts, number(row.sum), true)
	}
}

func TestSeriesOfCuts(t *testing.T) {
	rows := []struct {
		from, n int
		parts   int64
		cuts    []int64
		sum     uint32
	}{
		{0, 10, 1, nil, 0x452cce1a},
		{0, 10, 2, []int64{2}, 0x44c153c0},
		{0, 10, 3, []int64{2, 7}, 0x44a956ef},
		{0, 10, 5, []int64{1, 2, 4, 5}, 0x43627b30},
		{0, 10, 9, allBut(10, 6), 0x3f000000},
		{0, 10, 10, allBut(10), plusZero},
		{40, 30, 1, nil, 0x4583769a},
		{40, 30, 2, []int64{13}, 0x4553b489},
		{40, 30, 4, []int64{13, 16, 19}, 0x44fa637a},
		{40, 30, 7, []int64{1, 2, 10, 13, 16, 19}, 0x449fda46},
		{40, 30, 29, allBut(30, 6), 0x3e000000},
		{7, 64, 1, nil, 0x4657481c},
		{7, 64, 2, []int64{1}, 0x464feaee},
		{7, 64, 3, []int64{6, 16}, 0x464333e6},
		{7, 64, 8, []int64{6, 16, 23, 30, 46, 49, 52}, 0x4610764d},
		{7, 64, 20, []int64{3, 4, 6, 9, 12, 16, 17, 18, 20, 21, 23, 30, 31, 32, 43, 46, 49, 52, 63}, 0x453d1c87},
		{7, 64, 63, allBut(64, 19), 0x3d000000},
		{7, 64, 64, allBut(64), plusZero},
	}
	for _, row := range rows {
		list := toldNumbers(row.n, func(i int) float32 { return seriesNumber(row.from + i) })
		wantShown(t, "BestCuts of a series", shownCuts(list, row.parts), row.cuts, number(row.sum), true)
	}
}

// The square of 1e19 is finite, as is the sum of three of them, but not of four.
func TestBestCutsWithInfiniteSums(t *testing.T) {
	great, turned := repeated(float32(1e19), 8), []float32{1e19, -1e19, 1e19, -1e19}
	rows := []struct {
		list  []float32
		parts int64
		cuts  []int64
		sum   uint32
	}{
		{great[:1], 1, nil, plusZero},
		{great[:2], 1, nil, plusZero},
		{great[:3], 1, nil, plusZero},
		{great[:4], 2, []int64{1}, plusZero},
		{great, 8, upTo(8)[1:], plusZero},
		{turned, 2, []int64{1}, 0x7f489e22},
		{turned, 3, []int64{1, 2}, 0x7f167699},
		{turned, 4, []int64{1, 2, 3}, plusZero},
		{[]float32{-1e19, -1e19, 1e19, 1e19}, 2, []int64{2}, plusZero},
		{[]float32{1.8e19, 1}, 2, []int64{1}, plusZero},
	}
	for _, row := range rows {
		wantShown(t, "BestCuts "+shown(row.list, row.parts), shownCuts(row.list, row.parts), row.cuts, number(row.sum), true)
	}
	none := shown([]int64{}, float32(0), false)
	wantSame(t, "an infinite square", shownCuts([]float32{3e38}, 1), none)
	wantSame(t, "an infinite square in a part of its own", shownCuts([]float32{1.9e19, 1}, 2), none)
	wantSame(t, "the greatest number", shownCuts(numbers(greatest, greatest|minusZero), 2), none)
	wantSame(t, "two sums that are infinite", shownCuts(great[:4], 1), none)
	wantSame(t, "one sum that is infinite", shownCuts(turned, 1), none)
	wantSame(t, "no parts without such sums", shownCuts(great, 2), none)
	wantSame(t, "a first sum that is no number", shownCuts(great, 3), none)
}

func TestBestCutsFails(t *testing.T) {
	none := shown([]int64{}, float32(0), false)
	for _, n := range []int{1, 2, 7, 64} {
		for _, parts := range wrongParts(n) {
			wantSame(t, "BestCuts with no number of parts", shownCuts(countUp(n), parts), none)
		}
	}
	wantTrue(t, "64 numbers", shownCuts(countUp(64), 1) != none)
	for _, n := range []int{65, 256} {
		for _, parts := range []int64{1, 2, 64, int64(n)} {
			wantSame(t, "BestCuts of too many numbers", shownCuts(countUp(n), parts), none)
		}
	}
	for what, list := range notLists() {
		for _, parts := range []int64{0, 1, int64(len(list))} {
			wantSame(t, "BestCuts of "+what, shownCuts(list, parts), none)
		}
	}
}

func TestEvenCuts(t *testing.T) {
	rows := []struct {
		n     int
		parts int64
		want  []int64
	}{
		{1, 1, nil},
		{5, 1, nil},
		{5, 2, []int64{2}},
		{5, 3, []int64{1, 3}},
		{5, 4, []int64{1, 2, 3}},
		{5, 5, []int64{1, 2, 3, 4}},
		{6, 3, []int64{2, 4}},
		{7, 5, []int64{1, 2, 4, 5}},
		{256, 1, nil},
		{256, 7, []int64{36, 73, 109, 146, 182, 219}},
		{256, 256, upTo(256)[1:]},
	}
	for _, row := range rows {
		wantShown(t, "EvenCuts", wrapped(impl.EvenCuts(countUp(row.n), row.parts)), row.want, true)
	}
	wantShown(t, "the greatest numbers", wrapped(impl.EvenCuts(repeated(number(greatest), 4), 2)), []int64{2}, true)
	for _, n := range []int{1, 2, 64, 256} {
		for _, parts := range wrongParts(n) {
			wantShown(t, "EvenCuts with no number of parts", wrapped(impl.EvenCuts(countUp(n), parts)), []int64{}, false)
		}
	}
	for what, list := range notLists() {
		for _, parts := range []int64{0, 1, int64(len(list))} {
			wantShown(t, "EvenCuts of "+what, wrapped(impl.EvenCuts(list, parts)), []int64{}, false)
		}
	}
}
