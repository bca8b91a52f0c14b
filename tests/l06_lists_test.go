package tests

import (
	"math"
	"testing"

	"loop.example/g01347/impl"
)

// million is how far from 0 the integers of a list with a window lie at most.
const million = 1000000

// ofWindow are the functions that tell integers of last ones.
func ofWindow() []func(list []int64, long int64) ([]int64, bool) {
	return []func(list []int64, long int64) ([]int64, bool){impl.LeastOfWindow, impl.GreatestOfWindow, impl.MiddleOfWindow, impl.OftenInWindow}
}

// wrongRoomsOfStreams are no numbers of kept ones, and no long for last ones.
var wrongRoomsOfStreams = []int64{0, -1, 129, math.MinInt64, math.MaxInt64}

// notReadings are no lists of integers with a window.
func notReadings() map[string][]int64 {
	return map[string][]int64{
		"nil":                  nil,
		"no integers":          {},
		"an integer above":     {million + 1},
		"an integer below":     {-million - 1},
		"a last one above":     {0, million, million + 1},
		"a last one below":     {0, -million, -million - 1},
		"the least integer":    {math.MinInt64, 0},
		"the greatest integer": {math.MaxInt64},
		"129 integers":         upTo(129),
		"5000 integers":        repeated(int64(7), 5000),
	}
}

// notStreams are no lists of numbers of a stream.
func notStreams() map[string][]float32 {
	return notListsUpTo(128)
}

func TestIntegersOfWindow(t *testing.T) {
	rows := []struct {
		list []int64
		long int64
		want [4][]int64 // the least, the greatest, the middle and the most frequent ones
	}{
		{[]int64{5}, 1, [4][]int64{{5}, {5}, {5}, {5}}},
		{[]int64{5}, 128, [4][]int64{{5}, {5}, {5}, {5}}},
		{[]int64{3, 1, 2}, 1, [4][]int64{{3, 1, 2}, {3, 1, 2}, {3, 1, 2}, {3, 1, 2}}},
		{[]int64{3, 1, 2}, 2, [4][]int64{{3, 1, 1}, {3, 3, 2}, {3, 1, 1}, {3, 1, 1}}},
		{[]int64{3, 1, 2}, 3, [4][]int64{{3, 1, 1}, {3, 3, 3}, {3, 1, 2}, {3, 1, 1}}},
		{[]int64{3, 1, 2}, 128, [4][]int64{{3, 1, 1}, {3, 3, 3}, {3, 1, 2}, {3, 1, 1}}},
		{[]int64{2, 1, 1, 2}, 4, [4][]int64{{2, 1, 1, 1}, {2, 2, 2, 2}, {2, 1, 1, 1}, {2, 1, 1, 1}}},
		{[]int64{2, 1, 1, 2}, 3, [4][]int64{{2, 1, 1, 1}, {2, 2, 2, 2}, {2, 1, 1, 1}, {2, 1, 1, 1}}},
		{[]int64{1, 2, 3, 4, 5}, 3, [4][]int64{{1, 1, 1, 2, 3}, {1, 2, 3, 4, 5}, {1, 1, 2, 3, 4}, {1, 1, 1, 2, 3}}},
		{[]int64{5, 4, 3, 2, 1}, 3, [4][]int64{{5, 4, 3, 2, 1}, {5, 5, 5, 4, 3}, {5, 4, 4, 3, 2}, {5, 4, 3, 2, 1}}},
		{[]int64{7, 7, 7}, 2, [4][]int64{{7, 7, 7}, {7, 7, 7}, {7, 7, 7}, {7, 7, 7}}},
		{[]int64{-million, million, -million, 0}, 2, [4][]int64{{-million, -million, -million, -million}, {-million, million, million, 0}, {-million, -million, -million, -million}, {-million, -million, -million, -million}}},
		{[]int64{million, -million}, 1, [4][]int64{{million, -million}, {million, -million}, {million, -million}, {million, -million}}},
		{[]int64{4, 4, 2, 2, 9, 9, 9, 2, -3, -3}, 6, [4][]int64{{4, 4, 2, 2, 2, 2, 2, 2, -3, -3}, {4, 4, 4, 4, 9, 9, 9, 9, 9, 9}, {4, 4, 4, 2, 4, 4, 4, 2, 2, 2}, {4, 4, 4, 2, 2, 2, 9, 2, 9, 9}}},
		{[]int64{4, 4, 2, 2, 9, 9, 9, 2, -3, -3}, 10, [4][]int64{{4, 4, 2, 2, 2, 2, 2, 2, -3, -3}, {4, 4, 4, 4, 9, 9, 9, 9, 9, 9}, {4, 4, 4, 2, 4, 4, 4, 4, 4, 2}, {4, 4, 4, 2, 2, 2, 9, 2, 2, 2}}},
		{[]int64{4, 4, 2, 2, 9, 9, 9, 2, -3, -3}, 9, [4][]int64{{4, 4, 2, 2, 2, 2, 2, 2, -3, -3}, {4, 4, 4, 4, 9, 9, 9, 9, 9, 9}, {4, 4, 4, 2, 4, 4, 4, 4, 4, 2}, {4, 4, 4, 2, 2, 2, 9, 2, 2, 2}}},
		{[]int64{0, -1, 0, -2, -1, -2}, 5, [4][]int64{{0, -1, -1, -2, -2, -2}, {0, 0, 0, 0, 0, 0}, {0, -1, 0, -1, -1, -1}, {0, -1, 0, 0, -1, -2}}},
	}
	for _, row := range rows {
		for i, call := range ofWindow() {
			wantShown(t, "integers of a window", wrapped(call(row.list, row.long)), row.want[i], true)
		}
	}
}

func TestLongIntegersOfWindow(t *testing.T) {
	rows := []struct {
		n         int
		long, mod int64
		want      [4]int64
	}{
		{128, 1, 7, [4]int64{8259, 8259, 8259, 8259}},
		{128, 2, 7, [4]int64{-4992, 21120, -4992, -4992}},
		{128, 10, 23, [4]int64{-48050, 121222, 20322, -21388}},
		{128, 64, 101, [4]int64{-270783, 542146, 118471, -228884}},
		{128, 127, 1000, [4]int64{-2747456, 5268192, 472550, -1351516}},
		{128, 128, 50, [4]int64{-132096, 264144, 16140, -17198}},
		{127, 128, 50, [4]int64{-130048, 260048, 15884, -16942}},
		{100, 33, 3, [4]int64{-5050, 5044, -5050, -5050}},
	}
	for _, row := range rows {
		list := told(row.n, func(i int64) int64 { return (i*i*31+i*17)%row.mod - row.mod/3 })
		for i, call := range ofWindow() {
			got, ok := call(list, row.long)
			wantShown(t, "integers of a long window", shown(len(got), weighed(got), ok), row.n, row.want[i], true)
		}
	}
}

func TestIntegersOfWindowWithInvalidOnes(t *testing.T) {
	for _, call := range ofWindow() {
		for what, list := range notReadings() {
			for _, long := range []int64{1, 2, 128} {
				wantShown(t, "integers of a window with "+what, wrapped(call(list, long)), []int64{}, false)
			}
		}
		for _, long := range wrongRoomsOfStreams {
			wantShown(t, "integers of a window with no long", wrapped(call([]int64{3, 1, 2}, long)), []int64{}, false)
		}
		got, ok := call(repeated(int64(million), 128), 128)
		wantShown(t, "128 integers", shown(got, ok), repeated(int64(million), 128), true)
	}
}

func TestMeansOfWindow(t *testing.T) {
	rows := []struct {
		list []float32
		long int64
		want []float32
	}{
		{numbers(0x40400000, oneBits, 0x40000000), 2, numbers(0x40400000, 0x40000000, 0x3fc00000)},
		{numbers(0x40400000, oneBits, 0x40000000), 1, numbers(0x40400000, oneBits, 0x40000000)},
		{numbers(0x40400000, oneBits, 0x40000000), 3, numbers(0x40400000, 0x40000000, 0x40000000)},
		{numbers(0x40400000, oneBits, 0x40000000), 128, numbers(0x40400000, 0x40000000, 0x40000000)},
		{numbers(0x40a00000), 1, numbers(0x40a00000)},
		{numbers(0x40a00000), 128, numbers(0x40a00000)},
		{numbers(minusZero), 1, numbers(plusZero)},
		{numbers(minusZero, minusZero), 2, numbers(plusZero, plusZero)},
		{numbers(plusZero, minusZero), 1, numbers(plusZero, plusZero)},
		{numbers(greatest, greatest|minusZero), 2, numbers(greatest, plusZero)},
		{numbers(greatest), 1, numbers(greatest)},
		{numbers(0x4b800000, oneBits, oneBits), 3, numbers(0x4b800000, 0x4b000000, 0x4aaaaaab)},
		{numbers(oneBits, oneBits, 0x4b800000), 3, numbers(oneBits, oneBits, 0x4aaaaaac)},
		{numbers(leastBits, plusZero, plusZero), 2, numbers(leastBits, plusZero, plusZero)},
		{numbers(leastBits, 0x00000002, 0x00000003), 2, numbers(leastBits, 0x00000002, 0x00000002)},
		{numbers(0x3dcccccd, 0x3e4ccccd, 0x3e99999a, 0x3ecccccd, 0x3f333333), 3, numbers(0x3dcccccd, 0x3e19999a, 0x3e4ccccd, 0x3e999999, 0x3eeeeef0)},
		{numbers(0x7f000000, 0x7e7fffff), 2, numbers(0x7f000000, 0x7ec00000)},
		{numbers(0x7effffff, 0x7effffff), 2, numbers(0x7effffff, 0x7effffff)},
		{numbers(oneBits, oneBits, 0x40000000), 3, numbers(oneBits, oneBits, 0x3faaaaab)},
	}
	for _, row := range rows {
		wantShown(t, "MeansOfWindow "+shown(row.list, row.long), wrapped(impl.MeansOfWindow(row.list, row.long)), row.want, true)
	}
	for what, list := range notStreams() {
		for _, long := range []int64{1, 2, 128} {
			wantShown(t, "MeansOfWindow with "+what, wrapped(impl.MeansOfWindow(list, long)), []float32{}, false)
		}
	}
	for _, long := range wrongRoomsOfStreams {
		wantShown(t, "MeansOfWindow with no long", wrapped(impl.MeansOfWindow([]float32{3, 1, 2}, long)), []float32{}, false)
	}
}

func TestMeansThatAreNotFinite(t *testing.T) {
	rows := []struct {
		list []float32
		long int64
	}{
		{numbers(greatest, greatest), 2},
		{numbers(greatest, greatest), 128},
		{numbers(greatest, greatest, plusZero), 3},
		{numbers(greatest|minusZero, greatest|minusZero), 2},
		{numbers(greatest, 0x73000000), 2},
		{numbers(0x7f000000, 0x7f000000, 0x7f000000), 2},
		{numbers(plusZero, plusZero, greatest, greatest, plusZero), 2},
	}
	for _, row := range rows {
		wantShown(t, "MeansOfWindow "+shown(row.list, row.long), wrapped(impl.MeansOfWindow(row.list, row.long)), []float32{}, false)
		wantShown(t, "MeansOfWindow for the long 1", wrapped(impl.MeansOfWindow(row.list, 1)), row.list, true)
	}
	wantShown(t, "a sum that is nearly too great", wrapped(impl.MeansOfWindow(numbers(greatest, 0x72ffffff), 2)), numbers(greatest, 0x7effffff), true)
}

func TestSmoothStream(t *testing.T) {
	rows := []struct {
		list  []float32
		share uint32
		want  []float32
	}{
		{numbers(0x40800000, plusZero), 0x3f000000, numbers(0x40800000, 0x40000000)},
		{numbers(0x40800000, plusZero, plusZero), 0x3e800000, numbers(0x40800000, 0x40400000, 0x40100000)},
		{numbers(0x40800000, 0x40000000), plusZero, numbers(0x40800000, 0x40800000)},
		{numbers(0x40800000, 0x40000000, 0x41100000), oneBits, numbers(0x40800000, 0x40000000, 0x41100000)},
		{numbers(0x40e00000), 0x3e99999a, numbers(0x40e00000)},
		{numbers(minusZero), 0x3e99999a, numbers(minusZero)},
		{numbers(minusZero), plusZero, numbers(minusZero)},
		{numbers(minusZero, minusZero), plusZero, numbers(minusZero, plusZero)},
		{numbers(minusZero, plusZero), 0x3f000000, numbers(minusZero, plusZero)},
		{numbers(plusZero, minusZero), 0x3f000000, numbers(plusZero, plusZero)},
		{numbers(minusZero, minusZero), oneBits, numbers(minusZero, plusZero)},
		{numbers(minusZero, minusZero), minusZero, numbers(minusZero, minusZero)},
		{numbers(0x40a00000, 0x40400000), minusZero, numbers(0x40a00000, 0x40a00000)},
		{numbers(minusZero, 0x40400000), plusZero, numbers(minusZero, plusZero)},
		{numbers(minusZero, 0x40400000), minusZero, numbers(minusZero, minusZero)},
		{numbers(0x3dcccccd, 0x3f333333, 0xbe99999a, 0x41400000, 0x3dcccccd), 0x3e99999a, numbers(0x3dcccccd, 0x3e8f5c29, 0x3dd91684, 0x406b2618, 0x4026862f)},
		{numbers(oneBits, 0x501502f9, oneBits), oneBits, numbers(oneBits, 0x501502f9, plusZero)},
		{numbers(greatest, plusZero), oneBits, numbers(greatest, plusZero)},
		{numbers(greatest, plusZero), 0x3f000000, numbers(greatest, 0x7effffff)},
		{numbers(0x7f000000, 0xfefffffe), 0x3f000000, numbers(0x7f000000, 0x73000000)},
		{numbers(leastBits, plusZero), 0x3f000000, numbers(leastBits, leastBits)},
		{numbers(0x00000003, plusZero), 0x3f000000, numbers(0x00000003, leastBits)},
		{numbers(plusZero, leastBits), 0x3f000000, numbers(plusZero, plusZero)},
		{numbers(plusZero, 0x00000003), 0x3f000000, numbers(plusZero, 0x00000002)},
		{numbers(oneBits, 0x40000000), leastBits, numbers(oneBits, oneBits)},
		{numbers(oneBits, 0x40000000), 0x3f7fffff, numbers(oneBits, 0x40000000)},
		{numbers(greatest, greatest), 0x3f000000, numbers(greatest, greatest)},
		{numbers(greatest, 0xf2ffffff), oneBits, numbers(greatest, plusZero)},
	}
	for _, row := range rows {
		wantShown(t, "SmoothStream "+shown(row.list, number(row.share)), wrapped(impl.SmoothStream(row.list, number(row.share))), row.want, true)
	}
	for what, list := range notStreams() {
		for _, share := range []float32{0, 0.5, 1} {
			wantShown(t, "SmoothStream with "+what, wrapped(impl.SmoothStream(list, share)), []float32{}, false)
		}
	}
	for _, bits := range wrongShares {
		wantShown(t, "SmoothStream with no share", wrapped(impl.SmoothStream([]float32{3}, number(bits))), []float32{}, false)
		wantShown(t, "SmoothStream with no share", wrapped(impl.SmoothStream([]float32{3, 3, 2}, number(bits))), []float32{}, false)
	}
}

func TestSmoothNumbersThatAreNotFinite(t *testing.T) {
	rows := []struct {
		list  []float32
		share uint32
	}{
		{numbers(greatest, greatest|minusZero), 0x3f000000},
		{numbers(greatest, greatest|minusZero), plusZero},
		{numbers(greatest, greatest|minusZero), leastBits},
		{numbers(greatest|minusZero, greatest), oneBits},
		{numbers(plusZero, greatest, greatest|minusZero), oneBits},
		{numbers(greatest, 0xf3000000), 0x3e800000},
		{numbers(0x7f000000, 0xff000000), 0x3e800000},
		{numbers(0x7f000000, 0xfeffffff), 0x3e800000},
		{append(numbers(greatest, greatest|minusZero), repeated(float32(0), 126)...), oneBits},
	}
	for _, row := range rows {
		wantShown(t, "SmoothStream "+shown(row.list, number(row.share)), wrapped(impl.SmoothStream(row.list, number(row.share))), []float32{}, false)
	}
}

// weighedBits tells a long list of numbers by its bits.
func weighedBits(list []float32) int64 {
	return weighed(told(len(list), func(i int64) int64 { return int64(bitsOf(list[i])) }))
}

func TestLongStreams(t *testing.T) {
	rows := []struct {
		n            int
		long         int64
		share        float32
		means, after int64
	}{
		{128, 1, 0.1, 17138956686428, 10465626298838},
		{128, 7, 0.5, 13416532556243, 15061416906493},
		{128, 64, 0.9, 8945584021433, 16871596969844},
		{128, 128, 1, 8933391039351, 17138956684233},
		{127, 128, 0, 8797535855223, 26250303242240},
		{100, 33, 0.3, 5547221287970, 7939217339266},
	}
	for _, row := range rows {
		list := toldNumbers(row.n, func(i int) float32 { return float32((i*i*31+i*17)%101-40) * 0.1 })
		means, one := impl.MeansOfWindow(list, row.long)
		smooth, two := impl.SmoothStream(list, row.share)
		wantShown(t, "long streams", shown(weighedBits(means), one, weighedBits(smooth), two), row.means, true, row.after, true)
	}
}
