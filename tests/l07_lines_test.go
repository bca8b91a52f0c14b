package tests

import (
	"math"
	"slices"
	"testing"

	"loop.example/g01347/impl"
)

// points are complex numbers, told by the bits of both parts of each.
func points(bits ...uint32) []complex64 {
	list := []complex64{}
	for part := range slices.Chunk(bits, 2) {
		list = append(list, point(part[0], part[1]))
	}
	return list
}

// bothParts are the real and the imaginary parts of complex numbers, one by one.
func bothParts(lines []complex64) []float32 {
	list := []float32{}
	for _, line := range lines {
		list = append(list, real(line), imag(line))
	}
	return list
}

// roughLines are rough vectors as the real and the imaginary parts of lines.
func roughLines(n, turn int) []complex64 {
	lines := make([]complex64, n)
	for i, x := range roughVector(n, turn) {
		lines[i] = complex(x, roughVector(n, turn+1)[n-1-i])
	}
	return lines
}

// notLines are no lines of a vector.
func notLines() map[string][]complex64 {
	lists := map[string][]complex64{
		"nil":        nil,
		"no lines":   {},
		"33 lines":   roughLines(33, 2),
		"5000 lines": repeated(complex64(1), 5000),
	}
	for _, bits := range notFinite {
		what := impl.Decimal(int64(bits))
		lists["a real "+what] = points(bits, oneBits)
		lists["an imaginary "+what] = points(oneBits, bits)
		lists["both parts "+what] = points(plusZero, plusZero, bits, bits)
		lists["at last "+what] = append(roughLines(31, 2), point(plusZero, bits))
	}
	return lists
}

func TestLineOf(t *testing.T) {
	rows := []struct {
		v      []float32
		k      int64
		re, im uint32
	}{
		{[]float32{1, 1}, 0, 0x40000000, plusZero},
		{[]float32{1, 1}, 1, plusZero, plusZero},
		{[]float32{5}, 0, 0x40a00000, plusZero},
		{[]float32{-5}, 0, 0xc0a00000, plusZero},
		{[]float32{0}, 0, plusZero, plusZero},
		{[]float32{1, -1}, 0, plusZero, plusZero},
		{[]float32{1, -1}, 1, 0x40000000, plusZero},
		{[]float32{0, 1}, 1, 0xbf800000, plusZero},
		{[]float32{1, 2, 3}, 0, 0x40c00000, plusZero},
		{[]float32{1, 2, 3}, 1, 0xbfc00000, 0x3f5db3d6},
		{[]float32{1, 2, 3}, 2, 0xbfc00000, 0xbf5db3d6},
		{[]float32{1, 0, 0, 0}, 0, oneBits, plusZero},
		{[]float32{1, 0, 0, 0}, 3, oneBits, plusZero},
		{[]float32{0, 1, 0, 0}, 0, oneBits, plusZero},
		{[]float32{0, 1, 0, 0}, 1, plusZero, 0xbf800000},
		{[]float32{0, 1, 0, 0}, 2, 0xbf800000, plusZero},
		{[]float32{0, 1, 0, 0}, 3, plusZero, oneBits},
		{[]float32{0, 0, 0, -1}, 1, plusZero, 0xbf800000},
		{[]float32{0, 0, 0, -1}, 3, plusZero, oneBits},
		{[]float32{1, 2, 3, 4}, 1, 0xc0000000, 0x40000000},
		{[]float32{1, 2, 3, 4}, 2, 0xc0000000, plusZero},
		{[]float32{1e+08, 1, -1e+08, 1}, 0, oneBits, plusZero},
		{[]float32{0.1, 0.7, 0.3, 0.9, 0.5}, 0, 0x40200000, plusZero},
		{[]float32{0.1, 0.7, 0.3, 0.9, 0.5}, 1, 0xbeffffff, 0x3e265bde},
		{[]float32{0.1, 0.7, 0.3, 0.9, 0.5}, 2, 0xbf000000, 0xbf302d48},
		{[]float32{0.1, 0.7, 0.3, 0.9, 0.5}, 3, 0xbf000000, 0x3f302d48},
		{[]float32{0.1, 0.7, 0.3, 0.9, 0.5}, 4, 0xbeffffff, 0xbe265bde},
		{[]float32{3, 1, 4, 1, 5, 9}, 1, 0x40200000, 0x40f96a52},
		{[]float32{3, 1, 4, 1, 5, 9}, 5, 0x40200000, 0xc0f96a52},
		{[]float32{1, 1, 1, 1, 1, 1, 1, 1}, 0, 0x41000000, plusZero},
		{[]float32{1, 1, 1, 1, 1, 1, 1, 1}, 3, plusZero, plusZero},
		{[]float32{1, 1, 1, 1, 1, 1, 1, 1}, 7, plusZero, 0x33800000},
		{numbers(minusZero), 0, plusZero, plusZero},
		{numbers(minusZero, plusZero), 0, plusZero, plusZero},
		{numbers(plusZero, minusZero), 1, plusZero, plusZero},
		{numbers(minusZero, minusZero, minusZero), 2, plusZero, plusZero},
		{numbers(greatest), 0, greatest, plusZero},
		{numbers(greatest | minusZero), 0, greatest | minusZero, plusZero},
		{numbers(greatest, greatest|minusZero), 0, plusZero, plusZero},
		{numbers(greatest, greatest), 1, plusZero, plusZero},
		{numbers(leastBits), 0, leastBits, plusZero},
		{numbers(leastBits, leastBits|minusZero), 1, 0x00000002, plusZero},
		{numbers(plusZero, leastBits, plusZero), 1, plusZero, leastBits | minusZero},
		{numbers(plusZero, plusZero, mostSubBit), 2, 0x80400000, 0x806ed9eb},
		{numbers(plusZero, greatest, plusZero, greatest), 1, plusZero, plusZero},
		{roughVector(32, 7), 0, 0x43203334, plusZero},
		{roughVector(32, 7), 1, 0x4196a0ea, 0x42501d1f},
		{roughVector(32, 7), 15, 0xc1aeb9cc, 0xc2002699},
		{roughVector(32, 7), 16, 0x41700000, plusZero},
		{roughVector(32, 7), 31, 0x4196a0ea, 0xc2501d1f},
		{roughVector(31, 5), 0, 0x42db0001, plusZero},
		{roughVector(31, 5), 1, 0xc20711d8, 0xc217830f},
		{roughVector(31, 5), 30, 0xc20711d8, 0x4217830f},
		{roughVector(17, 11), 3, 0xc14c281f, 0xc1cd0042},
		{roughVector(17, 11), 16, 0xc13d5cea, 0x4092b81c},
		{roughVector(7, 2), 2, 0xc11a963c, 0x3ff15dc1},
		{roughVector(7, 2), 6, 0xc0d88a01, 0xc1633448},
		{repeated(float32(0), 32), 31, plusZero, plusZero},
	}
	for _, row := range rows {
		wantShown(t, "LineOf "+shown(row.v, row.k), wrapped(impl.LineOf(row.v, row.k)), point(row.re, row.im), true)
	}
}

func TestLineOfWithInvalidOnes(t *testing.T) {
	for what, v := range notVectors() {
		for _, k := range []int64{0, 1, int64(len(v)) - 1} {
			wantShown(t, "LineOf "+what, wrapped(impl.LineOf(v, k)), complex64(0), false)
		}
		wantShown(t, "LinesOf "+what, wrapped(impl.LinesOf(v)), []complex64{}, false)
	}
	for _, n := range []int{1, 2, 7, 32} {
		for _, k := range []int64{-1, int64(n), int64(n + 1), int64(-n), 1 << 32, math.MinInt64, math.MaxInt64} {
			wantShown(t, "LineOf with "+impl.Decimal(k), wrapped(impl.LineOf(countUp(n), k)), complex64(0), false)
		}
	}
	rows := []struct {
		v []float32
		k int64
	}{
		{numbers(greatest, greatest), 0},
		{numbers(greatest|minusZero, greatest|minusZero), 0},
		{numbers(greatest, greatest, greatest|minusZero), 0},
		{numbers(greatest, greatest|minusZero), 1},
		{numbers(plusZero, greatest, plusZero, greatest|minusZero), 1},
		{numbers(plusZero, greatest|minusZero, plusZero, greatest), 3},
		{numbers(greatest, plusZero, greatest|minusZero, plusZero), 3},
	}
	for _, row := range rows {
		wantShown(t, "LineOf "+shown(row.v, row.k), wrapped(impl.LineOf(row.v, row.k)), complex64(0), false)
		wantShown(t, "LinesOf "+shown(row.v), wrapped(impl.LinesOf(row.v)), []complex64{}, false)
	}
}

func TestLinesOf(t *testing.T) {
	rows := []struct {
		v    []float32
		want []complex64
	}{
		{[]float32{1, 1}, points(0x40000000, plusZero, plusZero, plusZero)},
		{[]float32{2}, points(0x40000000, plusZero)},
		{[]float32{1, -1}, points(plusZero, plusZero, 0x40000000, plusZero)},
		{[]float32{0, 0, 0}, points(plusZero, plusZero, plusZero, plusZero, plusZero, plusZero)},
		{[]float32{1, 2, 3}, points(0x40c00000, plusZero, 0xbfc00000, 0x3f5db3d6, 0xbfc00000, 0xbf5db3d6)},
		{[]float32{1, 2, 3, 4}, points(0x41200000, plusZero, 0xc0000000, 0x40000000, 0xc0000000, plusZero, 0xc0000000, 0xc0000000)},
		{[]float32{0.1, 0.7, 0.3, 0.9, 0.5}, points(0x40200000, plusZero, 0xbeffffff, 0x3e265bde, 0xbf000000, 0xbf302d48, 0xbf000000, 0x3f302d48, 0xbeffffff, 0xbe265bde)},
		{numbers(minusZero), points(plusZero, plusZero)},
		{numbers(minusZero, plusZero), points(plusZero, plusZero, plusZero, plusZero)},
		{numbers(leastBits), points(leastBits, plusZero)},
		{numbers(greatest), points(greatest, plusZero)},
		{numbers(leastBits, plusZero), points(leastBits, plusZero, leastBits, plusZero)},
	}
	for _, row := range rows {
		wantShown(t, "LinesOf "+shown(row.v), wrapped(impl.LinesOf(row.v)), row.want, true)
	}
}

func TestBackLines(t *testing.T) {
	rows := []struct {
		lines []complex64
		want  []float32
	}{
		{[]complex64{4}, numbers(0x40800000)},
		{[]complex64{2, 0}, numbers(oneBits, oneBits)},
		{[]complex64{0, 2}, numbers(oneBits, 0xbf800000)},
		{[]complex64{0}, numbers(plusZero)},
		{[]complex64{3 + 5i}, numbers(0x40400000)},
		{[]complex64{1, 2, 3}, numbers(0x40000000, 0xbf000000, 0xbf000000)},
		{[]complex64{0 + 1i, 2 - 1i, 0.5}, numbers(0x3f555555, 0xbe031037, 0xbf349148)},
		{[]complex64{10, -2 + 2i, -2, -2 - 2i}, numbers(oneBits, 0x40000000, 0x40400000, 0x40800000)},
		{[]complex64{0, 0.7 + 0.3i, 0, 0.1 - 0.9i, 0}, numbers(0x3e23d70a, 0xbe0b0a9e, 0x3cec4400, 0xbe78d653, 0x3e428168)},
		{points(minusZero, minusZero), numbers(plusZero)},
		{points(minusZero, plusZero, minusZero, plusZero), numbers(plusZero, plusZero)},
		{points(leastBits, leastBits), numbers(leastBits)},
		{points(leastBits|minusZero, plusZero), numbers(leastBits | minusZero)},
		{points(plusZero, leastBits, leastBits, plusZero), numbers(plusZero, minusZero)},
		{points(greatest, greatest), numbers(greatest)},
		{points(plusZero, greatest, plusZero, greatest), numbers(plusZero, plusZero)},
		{points(plusZero, greatest, plusZero, greatest, plusZero, plusZero, plusZero, plusZero), numbers(plusZero, 0xfe7fffff, plusZero, 0x7e7fffff)},
	}
	for _, row := range rows {
		wantShown(t, "BackLines "+shown(row.lines), wrapped(impl.BackLines(row.lines)), row.want, true)
	}
	for what, lines := range notLines() {
		wantShown(t, "BackLines "+what, wrapped(impl.BackLines(lines)), []float32{}, false)
	}
	for _, lines := range [][]complex64{
		points(greatest, plusZero, greatest, plusZero),
		points(greatest, plusZero, greatest|minusZero, plusZero),
		points(greatest|minusZero, plusZero, greatest|minusZero, plusZero),
		points(greatest, plusZero, greatest, plusZero, greatest|minusZero, plusZero),
		points(greatest, plusZero, plusZero, plusZero, greatest, plusZero, plusZero, plusZero),
		points(plusZero, plusZero, plusZero, greatest|minusZero, plusZero, plusZero, plusZero, greatest),
	} {
		wantShown(t, "BackLines "+shown(lines), wrapped(impl.BackLines(lines)), []float32{}, false)
	}
}

func TestLongLines(t *testing.T) {
	rows := []struct {
		n, turn    int
		want, back int64
	}{
		{32, 7, 5225027273000, 1244342589080},
		{32, 11, 4728681131007, 1190197906025},
		{31, 5, 4612709505039, 1151167943238},
		{30, 2, 4177917786367, 995139957318},
		{17, 3, 1464963802024, 331944473342},
		{8, 9, 296859092030, 85823920868},
		{1, 4, 3239051264, 3239051264},
	}
	for _, row := range rows {
		lines, one := impl.LinesOf(roughVector(row.n, row.turn))
		back, two := impl.BackLines(roughLines(row.n, row.turn))
		wantShown(t, "long lines", shown(len(lines), weighedBits(bothParts(lines)), one, len(back), weighedBits(back), two), row.n, row.want, true, row.n, row.back, true)
	}
}

func TestTopLines(t *testing.T) {
	rows := []struct {
		lines []complex64
		keep  int64
		want  []complex64
	}{
		{[]complex64{1, 3, 2}, 0, points(plusZero, plusZero, plusZero, plusZero, plusZero, plusZero)},
		{[]complex64{1, 3, 2}, 1, points(plusZero, plusZero, 0x40400000, plusZero, plusZero, plusZero)},
		{[]complex64{1, 3, 2}, 2, points(plusZero, plusZero, 0x40400000, plusZero, 0x40000000, plusZero)},
		{[]complex64{1, 3, 2}, 3, points(oneBits, plusZero, 0x40400000, plusZero, 0x40000000, plusZero)},
		{[]complex64{5}, 0, points(plusZero, plusZero)},
		{[]complex64{5}, 1, points(0x40a00000, plusZero)},
		{[]complex64{1, -1, 0 + 1i}, 0, points(plusZero, plusZero, plusZero, plusZero, plusZero, plusZero)},
		{[]complex64{1, -1, 0 + 1i}, 1, points(oneBits, plusZero, plusZero, plusZero, plusZero, plusZero)},
		{[]complex64{1, -1, 0 + 1i}, 2, points(oneBits, plusZero, 0xbf800000, plusZero, plusZero, plusZero)},
		{[]complex64{1, -1, 0 + 1i}, 3, points(oneBits, plusZero, 0xbf800000, plusZero, plusZero, oneBits)},
		{[]complex64{3 + 4i, 5, 0 - 5i, 1}, 1, points(0x40400000, 0x40800000, plusZero, plusZero, plusZero, plusZero, plusZero, plusZero)},
		{[]complex64{3 + 4i, 5, 0 - 5i, 1}, 2, points(0x40400000, 0x40800000, 0x40a00000, plusZero, plusZero, plusZero, plusZero, plusZero)},
		{[]complex64{3 + 4i, 5, 0 - 5i, 1}, 3, points(0x40400000, 0x40800000, 0x40a00000, plusZero, plusZero, 0xc0a00000, plusZero, plusZero)},
		{[]complex64{1, 2, 2, 1, 2}, 1, points(plusZero, plusZero, 0x40000000, plusZero, plusZero, plusZero, plusZero, plusZero, plusZero, plusZero)},
		{[]complex64{1, 2, 2, 1, 2}, 2, points(plusZero, plusZero, 0x40000000, plusZero, 0x40000000, plusZero, plusZero, plusZero, plusZero, plusZero)},
		{[]complex64{1, 2, 2, 1, 2}, 3, points(plusZero, plusZero, 0x40000000, plusZero, 0x40000000, plusZero, plusZero, plusZero, 0x40000000, plusZero)},
		{[]complex64{1, 2, 2, 1, 2}, 4, points(oneBits, plusZero, 0x40000000, plusZero, 0x40000000, plusZero, plusZero, plusZero, 0x40000000, plusZero)},
		{[]complex64{0, 0}, 0, points(plusZero, plusZero, plusZero, plusZero)},
		{[]complex64{0, 0}, 1, points(plusZero, plusZero, plusZero, plusZero)},
		{[]complex64{0, 0}, 2, points(plusZero, plusZero, plusZero, plusZero)},
		{[]complex64{0 + 2i, 1 + 1i, -3, 0.5 - 2i}, 2, points(plusZero, plusZero, plusZero, plusZero, 0xc0400000, plusZero, 0x3f000000, 0xc0000000)},
		{points(minusZero, minusZero, minusZero, minusZero), 0, points(plusZero, plusZero, plusZero, plusZero)},
		{points(minusZero, minusZero, minusZero, minusZero), 1, points(minusZero, minusZero, plusZero, plusZero)},
		{points(minusZero, minusZero, minusZero, minusZero), 2, points(minusZero, minusZero, minusZero, minusZero)},
		{points(plusZero, minusZero, oneBits, minusZero), 1, points(plusZero, plusZero, oneBits, minusZero)},
		{points(plusZero, minusZero, oneBits, minusZero), 2, points(plusZero, minusZero, oneBits, minusZero)},
		{points(oneBits, oneBits, minusZero, oneBits), 0, points(plusZero, plusZero, plusZero, plusZero)},
		{points(oneBits, oneBits, minusZero, oneBits), 1, points(oneBits, oneBits, plusZero, plusZero)},
		{points(leastBits, plusZero, plusZero, leastBits|minusZero, plusZero, plusZero), 1, points(leastBits, plusZero, plusZero, plusZero, plusZero, plusZero)},
		{points(leastBits, plusZero, plusZero, leastBits|minusZero, plusZero, plusZero), 2, points(leastBits, plusZero, plusZero, leastBits|minusZero, plusZero, plusZero)},
		{points(greatest, plusZero, plusZero, greatest), 1, points(greatest, plusZero, plusZero, plusZero)},
		{points(greatest, plusZero, plusZero, greatest), 2, points(greatest, plusZero, plusZero, greatest)},
		{points(0x7f000000, 0x7f000000, greatest, plusZero), 1, points(plusZero, plusZero, greatest, plusZero)},
		{points(0x4b000000, oneBits, 0x4b000000, plusZero), 1, points(0x4b000000, oneBits, plusZero, plusZero)},
		{points(0x4b000000, plusZero, 0x4b000000, oneBits), 1, points(0x4b000000, plusZero, plusZero, plusZero)},
	}
	for _, row := range rows {
		wantShown(t, "TopLines "+shown(row.lines, row.keep), wrapped(impl.TopLines(row.lines, row.keep)), row.want, true)
	}
	many := []struct {
		n, turn int
		keep    int64
		want    int64
	}{
		{32, 7, 32, 3619434267526},
		{32, 7, 5, 422007275620},
		{32, 11, 17, 1977458885058},
		{31, 5, 30, 3954984878957},
		{32, 0, 9, 573106553008},
	}
	for _, row := range many {
		kept, ok := impl.TopLines(roughLines(row.n, row.turn), row.keep)
		wantShown(t, "TopLines of many", shown(len(kept), weighedBits(bothParts(kept)), ok), row.n, row.want, true)
	}
	equal, ok := impl.TopLines(repeated(complex64(2i), 32), 31)
	wantShown(t, "TopLines of equal ones", shown(equal, ok), append(repeated(complex64(2i), 31), 0), true)
}

func TestTopLinesWithInvalidOnes(t *testing.T) {
	for what, lines := range notLines() {
		for _, keep := range []int64{0, 1, int64(len(lines))} {
			wantShown(t, "TopLines of "+what, wrapped(impl.TopLines(lines, keep)), []complex64{}, false)
		}
	}
	for _, n := range []int{1, 2, 32} {
		for _, keep := range []int64{-1, int64(n + 1), math.MinInt64, math.MaxInt64} {
			wantShown(t, "TopLines with "+impl.Decimal(keep), wrapped(impl.TopLines(roughLines(n, 2), keep)), []complex64{}, false)
		}
	}
	// The power of both parts is told by 64-bit numbers, but not its root by a 32-bit one.
	for _, lines := range [][]complex64{points(greatest, greatest), points(oneBits, plusZero, greatest|minusZero, greatest), append(roughLines(31, 2), point(0x7f400000, 0x7f400000))} {
		for keep := range int64(len(lines) + 1) {
			wantShown(t, "TopLines with an infinite long", wrapped(impl.TopLines(lines, keep)), []complex64{}, false)
		}
	}
}

func TestSlideLine(t *testing.T) {
	rows := []struct {
		line    complex64
		k, n    int64
		out, in uint32
		re, im  uint32
	}{
		{point(0x40400000, plusZero), 0, 2, oneBits, 0x40a00000, 0x40e00000, plusZero},
		{point(0x40400000, plusZero), 1, 2, oneBits, 0x40a00000, 0xc0e00000, plusZero},
		{point(plusZero, plusZero), 0, 1, plusZero, plusZero, plusZero, plusZero},
		{point(0x40a00000, plusZero), 0, 1, 0x40a00000, 0x40e00000, 0x40e00000, plusZero},
		{point(0x40a00000, plusZero), 0, 1, 0x40a00000, plusZero, plusZero, plusZero},
		{point(oneBits, 0x40000000), 0, 4, oneBits, oneBits, oneBits, 0x40000000},
		{point(oneBits, 0x40000000), 1, 4, oneBits, oneBits, 0xc0000000, oneBits},
		{point(oneBits, 0x40000000), 2, 4, oneBits, oneBits, 0xbf800000, 0xc0000000},
		{point(oneBits, 0x40000000), 3, 4, oneBits, oneBits, 0x40000000, 0xbf800000},
		{point(0x3f333333, 0xbe99999a), 2, 5, 0x3dcccccd, 0x3f666666, 0xbf84c2a4, 0x3f8febc8},
		{point(0x3f333333, 0xbe99999a), 4, 5, 0x3dcccccd, 0x3f666666, 0x3e367c4c, 0xbfc27818},
		{point(0xc0200000, 0x3fc00000), 31, 32, 0x3e99999a, 0xbf333333, 0xc048f79c, 0x4009db0a},
		{point(0xc0200000, 0x3fc00000), 1, 32, 0x3e99999a, 0xbf333333, 0xc06e6cb0, 0x3f49d213},
		{point(0xc0200000, 0x3fc00000), 16, 32, 0x3e99999a, 0xbf333333, 0x40600000, 0xbfc00000},
		{point(0x41200000, plusZero), 1, 3, 0xbf800000, 0x40200000, 0xc0d80000, 0x413b0fbd},
		{point(0x40800000, 0xc0800000), 5, 7, 0x40800000, plusZero, 0xc07994e0, 0x3f63dc87},
		{point(minusZero, minusZero), 0, 1, plusZero, minusZero, plusZero, minusZero},
		{point(minusZero, plusZero), 1, 2, plusZero, minusZero, plusZero, minusZero},
		{point(oneBits, plusZero), 0, 2, 0x4c000000, 0x4c000000, plusZero, plusZero},
		{point(greatest, plusZero), 0, 3, greatest, greatest, greatest, plusZero},
		{point(greatest, plusZero), 0, 3, plusZero, plusZero, greatest, plusZero},
		{point(plusZero, greatest), 0, 3, plusZero, plusZero, plusZero, greatest},
		{point(plusZero, greatest), 1, 4, plusZero, plusZero, greatest | minusZero, plusZero},
		{point(greatest|minusZero, oneBits), 0, 2, greatest | minusZero, greatest | minusZero, greatest | minusZero, oneBits},
		{point(leastBits, plusZero), 1, 3, plusZero, plusZero, minusZero, leastBits},
		{point(plusZero, plusZero), 0, 2, greatest, plusZero, greatest | minusZero, plusZero},
		{point(plusZero, plusZero), 1, 2, plusZero, leastBits, leastBits | minusZero, plusZero},
		{point(0x4b800000, plusZero), 0, 2, 0xbf800000, 0xbf800000, 0x4b7fffff, plusZero},
	}
	for _, row := range rows {
		got, ok := impl.SlideLine(row.line, row.k, row.n, number(row.out), number(row.in))
		wantShown(t, "SlideLine "+shown(row.line, row.k, row.n, number(row.out), number(row.in)), shown(got, ok), point(row.re, row.im), true)
	}
}

func TestSlideLineWithInvalidOnes(t *testing.T) {
	for _, bits := range notFinite {
		for _, line := range points(bits, oneBits, oneBits, bits, bits, bits) {
			wantShown(t, "SlideLine of no line", wrapped(impl.SlideLine(line, 0, 2, 1, 5)), complex64(0), false)
		}
		wantShown(t, "SlideLine with an out", wrapped(impl.SlideLine(3, 0, 2, number(bits), 5)), complex64(0), false)
		wantShown(t, "SlideLine with an in", wrapped(impl.SlideLine(3, 0, 2, 1, number(bits))), complex64(0), false)
	}
	for _, pair := range [][2]int64{{0, 0}, {-1, 0}, {-1, -1}, {0, -1}, {0, 33}, {32, 33}, {5, 33}, {-1, 2}, {2, 2}, {3, 2}, {1, 1}, {32, 32}, {33, 32}, {-1, 32}, {0, math.MaxInt64}, {0, math.MinInt64}, {math.MinInt64, 2}, {math.MaxInt64, 2}, {0, 1 << 32}, {1 << 32, 2}} {
		wantShown(t, "SlideLine with "+shown(pair), wrapped(impl.SlideLine(3, pair[0], pair[1], 1, 5)), complex64(0), false)
	}
	rows := []struct {
		line    complex64
		k, n    int64
		out, in uint32
	}{
		{point(greatest, plusZero), 0, 2, greatest | minusZero, plusZero},
		{point(greatest, plusZero), 0, 2, plusZero, greatest},
		{point(greatest, plusZero), 0, 2, greatest | minusZero, greatest | minusZero},
		{point(plusZero, plusZero), 0, 2, greatest, greatest | minusZero},
		{point(greatest|minusZero, plusZero), 0, 2, greatest, greatest},
		{point(greatest, greatest), 1, 8, plusZero, plusZero},
		{point(greatest, greatest|minusZero), 1, 8, plusZero, plusZero},
		{point(plusZero, plusZero), 1, 4, greatest | minusZero, greatest},
	}
	for _, row := range rows {
		wantShown(t, "SlideLine "+shown(row), wrapped(impl.SlideLine(row.line, row.k, row.n, number(row.out), number(row.in))), complex64(0), false)
	}
}
