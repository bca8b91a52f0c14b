package tests

import (
	"math"
	"testing"

	"loop.example/g01347/impl"
)

// notBits are no bits of a vector.
func notBits() map[string][]bool {
	return map[string][]bool{"nil": nil, "no bits": {}, "33 bits": repeated(true, 33), "64 bits": repeated(false, 64), "5000 bits": repeated(true, 5000)}
}

func TestAngleAbout(t *testing.T) {
	rows := []struct {
		a, b string
		want uint32
	}{
		{"10", "11", 0x3e800000},
		{"1", "1", plusZero},
		{"0", "1", 0x3f000000},
		{"101", "001", 0x3e2aaaab},
		{"101", "010", 0x3f000000},
		{"1100110", "1010101", 0x3e924925},
		{"00000000000000000000000000000000", "11111111111111111111111111111111", 0x3f000000},
		{"01010101010101010101010101010101", "01010101010101010101010101010101", plusZero},
		{"00000000000000000000000000000001", "00000000000000000000000000000000", 0x3c800000},
		{"10000000000000000000000000000000", "00000000000000000000000000000000", 0x3c800000},
		{"0110100110010110", "1001011001101000", 0x3ef00000},
		{"11111", "00100", 0x3ecccccd},
	}
	for _, row := range rows {
		a, b := bitsFrom(row.a), bitsFrom(row.b)
		wantShown(t, "AngleAbout "+row.a+" "+row.b, wrapped(impl.AngleAbout(a, b)), number(row.want), true)
		wantShown(t, "AngleAbout "+row.b+" "+row.a, wrapped(impl.AngleAbout(b, a)), number(row.want), true)
	}
	for what, bits := range notBits() {
		wantShown(t, "AngleAbout "+what, wrapped(impl.AngleAbout(bits, bits)), float32(0), false)
		wantShown(t, "AngleAbout one bit and "+what, wrapped(impl.AngleAbout(bitsFrom("1"), bits)), float32(0), false)
		wantShown(t, "AngleAbout 32 bits and "+what, wrapped(impl.AngleAbout(bits, repeated(true, 32))), float32(0), false)
	}
	for _, pair := range [][2]string{{"1", "11"}, {"110", "11"}, {"0", "00000000"}} {
		wantShown(t, "AngleAbout of other lengths", wrapped(impl.AngleAbout(bitsFrom(pair[0]), bitsFrom(pair[1]))), float32(0), false)
	}
}

// bitLists are lists of bits, told by digits.
func bitLists(digits ...string) [][]bool {
	lists := [][]bool{}
	for _, text := range digits {
		lists = append(lists, bitsFrom(text))
	}
	return lists
}

// turnedBits has lists of bits, some bands of which are equal.
func turnedBits(count, wide int) [][]bool {
	lists := make([][]bool, count)
	for i := range lists {
		lists[i] = make([]bool, wide)
		for k := range wide {
			lists[i][k] = (i*i*7+k*k*3+i*k*5)%11 < 4
		}
	}
	return lists
}

func TestBandPairs(t *testing.T) {
	rows := []struct {
		lists []string
		wide  int64
		want  []int64
	}{
		{[]string{"10", "11", "01"}, 1, []int64{0, 1, 1, 2}},
		{[]string{"10", "11", "01"}, 2, []int64{}},
		{[]string{"1"}, 1, []int64{}},
		{[]string{"1", "1"}, 1, []int64{0, 1}},
		{[]string{"1", "0"}, 1, []int64{}},
		{[]string{"1", "0", "1", "0"}, 1, []int64{0, 2, 1, 3}},
		{[]string{"110010", "110010", "001101"}, 1, []int64{0, 1}},
		{[]string{"110010", "110010", "001101"}, 2, []int64{0, 1}},
		{[]string{"110010", "110010", "001101"}, 3, []int64{0, 1}},
		{[]string{"110010", "110010", "001101"}, 6, []int64{0, 1}},
		{[]string{"1100", "0011", "1001", "0110", "1100"}, 1, []int64{0, 2, 0, 3, 0, 4, 1, 2, 1, 3, 2, 4, 3, 4}},
		{[]string{"1100", "0011", "1001", "0110", "1100"}, 2, []int64{0, 4}},
		{[]string{"1100", "0011", "1001", "0110", "1100"}, 4, []int64{0, 4}},
		{[]string{"110100", "010110", "011101", "100100"}, 1, []int64{0, 1, 0, 2, 0, 3, 1, 2, 1, 3, 2, 3}},
		{[]string{"110100", "010110", "011101", "100100"}, 2, []int64{0, 1, 0, 3, 1, 2, 1, 3}},
		{[]string{"110100", "010110", "011101", "100100"}, 3, []int64{0, 3}},
		{[]string{"110100", "010110", "011101", "100100"}, 6, []int64{}},
		{[]string{"00000000000000000000000000000000", "11111111111111111111111111111111", "00000000000000000000000000000001", "10000000000000000000000000000000"}, 1, []int64{0, 2, 0, 3, 1, 2, 1, 3, 2, 3}},
		{[]string{"00000000000000000000000000000000", "11111111111111111111111111111111", "00000000000000000000000000000001", "10000000000000000000000000000000"}, 2, []int64{0, 2, 0, 3, 2, 3}},
		{[]string{"00000000000000000000000000000000", "11111111111111111111111111111111", "00000000000000000000000000000001", "10000000000000000000000000000000"}, 4, []int64{0, 2, 0, 3, 2, 3}},
		{[]string{"00000000000000000000000000000000", "11111111111111111111111111111111", "00000000000000000000000000000001", "10000000000000000000000000000000"}, 8, []int64{0, 2, 0, 3, 2, 3}},
		{[]string{"00000000000000000000000000000000", "11111111111111111111111111111111", "00000000000000000000000000000001", "10000000000000000000000000000000"}, 16, []int64{0, 2, 0, 3}},
		{[]string{"00000000000000000000000000000000", "11111111111111111111111111111111", "00000000000000000000000000000001", "10000000000000000000000000000000"}, 32, []int64{}},
		{[]string{"00000000000000001111111111111111", "11111111111111111111111111111111", "00000000000000000000000000000000", "00000000000000011111111111111111"}, 8, []int64{0, 1, 0, 2, 0, 3, 1, 3, 2, 3}},
		{[]string{"00000000000000001111111111111111", "11111111111111111111111111111111", "00000000000000000000000000000000", "00000000000000011111111111111111"}, 16, []int64{0, 1, 0, 2, 0, 3, 1, 3}},
		{[]string{"00000000000000001111111111111111", "11111111111111111111111111111111", "00000000000000000000000000000000", "00000000000000011111111111111111"}, 32, []int64{}},
		{[]string{"0000011111", "1111100000", "0000000000"}, 5, []int64{0, 2, 1, 2}},
		{[]string{"0000011111", "1111100000", "0000000000"}, 10, []int64{}},
		{[]string{"0110", "1011"}, 2, []int64{}},
	}
	for _, row := range rows {
		lists := bitLists(row.lists...)
		wantShown(t, "BandPairs "+shown(row.lists, row.wide), wrapped(impl.BandPairs(lists, row.wide)), row.want, true)
	}
}

func TestManyBandPairs(t *testing.T) {
	rows := []struct {
		count, bits, wide int
		pairs             int
		want              int64
	}{
		{32, 32, 1, 992, 9224608},
		{32, 32, 4, 584, 3264635},
		{32, 32, 8, 62, 35777},
		{32, 32, 16, 62, 35777},
		{32, 32, 32, 62, 35777},
		{32, 30, 5, 392, 1453267},
		{31, 30, 3, 714, 4627214},
		{20, 21, 7, 28, 4402},
		{32, 1, 1, 578, 3156716},
		{1, 32, 4, 0, 0},
	}
	for _, row := range rows {
		got, ok := impl.BandPairs(turnedBits(row.count, row.bits), int64(row.wide))
		wantShown(t, "BandPairs of many", shown(len(got), weighed(got), ok), row.pairs, row.want, true)
	}
	got, ok := impl.BandPairs(repeated(repeated(true, 32), 32), 32)
	wantShown(t, "BandPairs of 32 equal lists", shown(len(got), got[:4], got[990:], ok), 992, []int64{0, 1, 0, 2}, []int64{30, 31}, true)
}

func TestBandPairsWithInvalidOnes(t *testing.T) {
	for n := 1; n <= 32; n++ {
		for _, wide := range notGroups(n) {
			wantShown(t, "BandPairs in bands of "+impl.Decimal(wide), wrapped(impl.BandPairs(turnedBits(3, n), wide)), []int64{}, false)
		}
	}
	for what, bits := range notBits() {
		for _, lists := range [][][]bool{{bits}, {bits, bits}, {{true}, bits}, {bits, {true}}} {
			for _, wide := range []int64{1, 0, int64(len(bits))} {
				wantShown(t, "BandPairs of "+what, wrapped(impl.BandPairs(lists, wide)), []int64{}, false)
			}
		}
	}
	fails := map[string][][]bool{
		"nil":                 nil,
		"no lists":            {},
		"33 lists":            turnedBits(33, 4),
		"5000 lists":          repeated([]bool{true}, 5000),
		"a list too long":     bitLists("10", "110"),
		"a list too short":    bitLists("110", "10"),
		"a last list of more": append(turnedBits(31, 4), bitsFrom("10101")),
		"a last list of less": append(turnedBits(31, 4), bitsFrom("101")),
	}
	for what, lists := range fails {
		wantShown(t, "BandPairs of "+what, wrapped(impl.BandPairs(lists, 1)), []int64{}, false)
	}
}

// roughVectors are some of the rough vectors.
func roughVectors(count, n int) [][]float32 {
	list := make([][]float32, count)
	for i := range list {
		list[i] = roughVector(n, i*i)
	}
	return list
}

func TestNearPairs(t *testing.T) {
	rows := []struct {
		list [][]float32
		far  uint32
		want []int64
	}{
		{[][]float32{{0}, {3}, {1}}, oneBits, []int64{0, 2}},
		{[][]float32{{0}, {3}, {1}}, plusZero, []int64{}},
		{[][]float32{{0}, {3}, {1}}, 0x40000000, []int64{0, 2, 1, 2}},
		{[][]float32{{0}, {3}, {1}}, 0x40400000, []int64{0, 1, 0, 2, 1, 2}},
		{[][]float32{{0}, {3}, {1}}, 0x3fffffff, []int64{0, 2}},
		{[][]float32{{5}}, plusZero, []int64{}},
		{[][]float32{{5}}, greatest, []int64{}},
		{[][]float32{{5}, {5}}, plusZero, []int64{0, 1}},
		{[][]float32{{5}, {5}}, minusZero, []int64{0, 1}},
		{[][]float32{{5}, {5.0000005}}, plusZero, []int64{}},
		{[][]float32{{5}, {5.0000005}}, leastBits, []int64{}},
		{[][]float32{{5}, {5.0000005}}, 0x34ffffff, []int64{}},
		{[][]float32{{5}, {5.0000005}}, 0x35000000, []int64{0, 1}},
		{[][]float32{{0, 0}, {3, 4}, {6, 8}, {-3, 4}}, 0x40a00000, []int64{0, 1, 0, 3, 1, 2}},
		{[][]float32{{0, 0}, {3, 4}, {6, 8}, {-3, 4}}, 0x409fffff, []int64{}},
		{[][]float32{{0, 0}, {3, 4}, {6, 8}, {-3, 4}}, 0x40c00000, []int64{0, 1, 0, 3, 1, 2, 1, 3}},
		{[][]float32{{0, 0}, {3, 4}, {6, 8}, {-3, 4}}, 0x41200000, []int64{0, 1, 0, 2, 0, 3, 1, 2, 1, 3, 2, 3}},
		{[][]float32{{1, 2, 3}, {3, 2, 1}, {1, 2, 3}, {2, 2, 2}}, plusZero, []int64{0, 2}},
		{[][]float32{{1, 2, 3}, {3, 2, 1}, {1, 2, 3}, {2, 2, 2}}, 0x3fb504f3, []int64{0, 2, 0, 3, 1, 3, 2, 3}},
		{[][]float32{{1, 2, 3}, {3, 2, 1}, {1, 2, 3}, {2, 2, 2}}, 0x40400000, []int64{0, 1, 0, 2, 0, 3, 1, 2, 1, 3, 2, 3}},
		{[][]float32{{0.1, 0.2}, {0.3, 0.7}, {0.2, 0.2}}, 0x3dccccce, []int64{0, 2}},
		{[][]float32{{0.1, 0.2}, {0.3, 0.7}, {0.2, 0.2}}, 0x3dcccccd, []int64{0, 2}},
		{[][]float32{{0.1, 0.2}, {0.3, 0.7}, {0.2, 0.2}}, 0x3f000000, []int64{0, 2}},
		{[][]float32{{0.1, 0.2}, {0.3, 0.7}, {0.2, 0.2}}, 0x3f0a0000, []int64{0, 1, 0, 2, 1, 2}},
		{[][]float32{{0.1, 0.2}, {0.3, 0.7}}, 0x3f09dc38, []int64{0, 1}},
		{[][]float32{{0.1, 0.2}, {0.3, 0.7}}, 0x3f09dc37, []int64{}},
		{[][]float32{{0.3, 0.7}, {0.1, 0.2}}, 0x3f09dc38, []int64{0, 1}},
		{[][]float32{{0.3, 0.7}, {0.1, 0.2}}, 0x3f09dc37, []int64{}},
		{[][]float32{{0.1, 0.9, 0.5}, {0.7, 0.3, 0.2}}, 0x3f666666, []int64{0, 1}},
		{[][]float32{{0.1, 0.9, 0.5}, {0.7, 0.3, 0.2}}, 0x3f666665, []int64{}},
		{[][]float32{{0.7, 0.3, 0.2}, {0.1, 0.9, 0.5}}, 0x3f666666, []int64{0, 1}},
		{[][]float32{{0.7, 0.3, 0.2}, {0.1, 0.9, 0.5}}, 0x3f666665, []int64{}},
		{[][]float32{{1.1, 2.3, 3.7}, {-0.3, 2.9, -1.3}}, 0x40a74263, []int64{0, 1}},
		{[][]float32{{1.1, 2.3, 3.7}, {-0.3, 2.9, -1.3}}, 0x40a74262, []int64{}},
		{[][]float32{{-0.3, 2.9, -1.3}, {1.1, 2.3, 3.7}}, 0x40a74263, []int64{0, 1}},
		{[][]float32{{-0.3, 2.9, -1.3}, {1.1, 2.3, 3.7}}, 0x40a74262, []int64{}},
		{[][]float32{numbers(plusZero), numbers(minusZero)}, plusZero, []int64{0, 1}},
		{[][]float32{numbers(plusZero), numbers(minusZero)}, minusZero, []int64{0, 1}},
		{[][]float32{numbers(leastBits), numbers(plusZero)}, plusZero, []int64{0, 1}},
		{[][]float32{numbers(0x1a000001), numbers(plusZero)}, plusZero, []int64{}},
		{[][]float32{numbers(0x1a000001), numbers(plusZero)}, 0x1a3504f2, []int64{}},
		{[][]float32{numbers(0x1a000001), numbers(plusZero)}, 0x1a3504f3, []int64{0, 1}},
		{[][]float32{numbers(0x1a000001), numbers(plusZero)}, leastBits, []int64{}},
		{[][]float32{numbers(greatest), numbers(greatest)}, plusZero, []int64{0, 1}},
		{[][]float32{numbers(greatest), numbers(greatest)}, greatest, []int64{0, 1}},
		{[][]float32{numbers(0x5f7fffff), numbers(plusZero)}, 0x5f7ffffe, []int64{}},
		{[][]float32{numbers(0x5f7fffff), numbers(plusZero)}, 0x5f7fffff, []int64{0, 1}},
		{[][]float32{numbers(0x5f7fffff), numbers(plusZero)}, greatest, []int64{0, 1}},
	}
	for _, row := range rows {
		wantShown(t, "NearPairs "+shown(len(row.list), number(row.far)), wrapped(impl.NearPairs(row.list, number(row.far))), row.want, true)
	}
}

func TestManyNearPairs(t *testing.T) {
	rows := []struct {
		count, n int
		far      uint32
		pairs    int
		want     int64
	}{
		{32, 32, 0x42700000, 360, 1219713},
		{32, 32, 0x428c0000, 888, 7342277},
		{32, 5, 0x41a00000, 406, 1485149},
		{32, 1, plusZero, 992, 9224608},
		{31, 7, 0x41c80000, 390, 1348567},
		{32, 31, plusZero, 0, 0},
		{1, 32, 0x41100000, 0, 0},
		{20, 3, 0x40a00000, 56, 17749},
	}
	for _, row := range rows {
		got, ok := impl.NearPairs(roughVectors(row.count, row.n), number(row.far))
		wantShown(t, "NearPairs of many", shown(len(got), weighed(got), ok), row.pairs, row.want, true)
	}
}

func TestNearPairsWithInvalidOnes(t *testing.T) {
	for what, v := range notVectors() {
		for _, list := range [][][]float32{{v}, {v, v}, {{1}, v}, {v, {1}}, {repeated(float32(1), len(v)), v}} {
			wantShown(t, "NearPairs of "+what, wrapped(impl.NearPairs(list, 1)), []int64{}, false)
		}
	}
	for _, far := range append([]uint32{leastBits | minusZero, 0xbf800000, greatest | minusZero}, notFinite...) {
		wantShown(t, "NearPairs with no far", wrapped(impl.NearPairs([][]float32{{0}, {3}}, number(far))), []int64{}, false)
		wantShown(t, "NearPairs of one with no far", wrapped(impl.NearPairs([][]float32{{5}}, number(far))), []int64{}, false)
	}
	fails := map[string][][]float32{
		"nil":                    nil,
		"no vectors":             {},
		"33 vectors":             roughVectors(33, 4),
		"5000 vectors":           repeated([]float32{1}, 5000),
		"a vector too long":      {{1, 2}, {1, 2, 3}},
		"a vector too short":     {{1, 2, 3}, {1, 2}},
		"a last vector of more":  append(roughVectors(31, 4), countUp(5)),
		"a last vector of less":  append(roughVectors(31, 4), countUp(3)),
		"an infinite difference": {numbers(greatest), numbers(greatest | minusZero)},
		"an infinite square":     {{1}, {1}, numbers(0x5f800000)},
		"an infinite sum":        {{0, 0}, {1, 1}, numbers(0x5f7fffff, 0x5f7fffff)},
	}
	for what, list := range fails {
		for _, far := range []float32{0, 1, math.MaxFloat32} {
			wantShown(t, "NearPairs of "+what, wrapped(impl.NearPairs(list, far)), []int64{}, false)
		}
	}
}
