package tests

import (
	"math"
	"testing"

	"loop.example/g01347/impl"
)

// roughVector has n numbers, most of which are rounded in products and sums.
func roughVector(n, turn int) []float32 {
	return toldNumbers(n, func(i int) float32 { return float32((i*i*23+i*turn)%89-30) * 0.3 })
}

// notVectors are no vectors, and no numbers of a sketch.
func notVectors() map[string][]float32 {
	return notListsUpTo(32)
}

// notSalts are no salts, of which there are 1 to 32.
func notSalts() map[string][]int64 {
	return map[string][]int64{
		"nil":               nil,
		"no salts":          {},
		"33 salts":          upTo(33),
		"5000 salts":        repeated(int64(7), 5000),
		"a salt below":      {-1},
		"a salt above":      {greatestKey + 1},
		"a last salt below": {5, 7, -1},
		"a last salt above": append(upTo(31), greatestKey+1),
		"the least number":  {math.MinInt64, 5},
		"the most number":   {math.MaxInt64, 5},
	}
}

func TestIsVector(t *testing.T) {
	for _, v := range [][]float32{{5}, numbers(plusZero), numbers(minusZero, plusZero), numbers(greatest, greatest|minusZero), numbers(leastBits, mostSubBit), countUp(32), repeated(number(greatest), 32)} {
		wantTrue(t, "IsVector", impl.IsVector(v))
	}
	for what, v := range notVectors() {
		wantFalse(t, "IsVector of "+what, impl.IsVector(v))
	}
}

func TestNormOf(t *testing.T) {
	// The squares are rounded one by one, and then their sum is, from the first one on.
	rows := []struct {
		v    []float32
		want uint32
	}{
		{[]float32{3, 4}, 0x40a00000},
		{[]float32{5}, 0x40a00000},
		{[]float32{-5}, 0x40a00000},
		{[]float32{1, 1}, 0x3fb504f3},
		{[]float32{1, 2, 3}, 0x406f7751},
		{[]float32{-3, -4, 12}, 0x41500000},
		{[]float32{0.1}, 0x3dcccccd},
		{[]float32{0.1, 0.2, 0.3}, 0x3ebf92a8},
		{[]float32{4096, 1, 1, 1}, 0x45800000},
		{[]float32{1, 1, 1, 4096}, 0x45800001},
		{numbers(plusZero), plusZero},
		{numbers(minusZero), plusZero},
		{numbers(plusZero, minusZero), plusZero},
		{numbers(minusZero, plusZero), plusZero},
		{numbers(leastBits), plusZero},
		{numbers(0x1a000000), plusZero},
		{numbers(0x1a000001), 0x1a3504f3},
		{numbers(0x1e3ce508), 0x1e3ce4e7},
		{numbers(0x1e3ce508, leastBits|minusZero), 0x1e3ce4e7},
		{numbers(mostSubBit, mostSubBit), plusZero},
		{numbers(0x1fb504f3), 0x1fb504f3},
		{numbers(0x1fb504f4), 0x1fb504f5},
		{numbers(0x5f000000), 0x5f000000},
		{numbers(0x5f000000, 0x5f000000, 0x5f000000), 0x5f5db3d7},
		{numbers(0x5f7fffff), 0x5f7fffff},
		{numbers(0xdf7fffff, oneBits), 0x5f7fffff},
		{numbers(0x5f3504f3, 0x5f3504f3), 0x5f7fffff},
		{numbers(0x3f800800), 0x3f800800},
		{repeated(float32(1), 32), 0x40b504f3},
		{roughVector(1, 7), 0x41100000},
		{roughVector(31, 7), 0x42437a7f},
		{roughVector(32, 11), 0x42495d39},
		{repeated(float32(0), 32), plusZero},
	}
	for _, row := range rows {
		wantShown(t, "NormOf "+shown(row.v), wrapped(impl.NormOf(row.v)), number(row.want), true)
	}
	for _, v := range [][]float32{
		numbers(0x5f800000),
		numbers(0xdf800000),
		numbers(greatest),
		numbers(greatest|minusZero, plusZero),
		numbers(0x5f000000, 0x5f000000, 0x5f000000, 0x5f000000),
		numbers(0x5f3504f4, 0x5f3504f4),
		numbers(oneBits, 0x5f7fffff, 0x5f7fffff),
	} {
		wantShown(t, "NormOf "+shown(v), wrapped(impl.NormOf(v)), float32(0), false)
	}
	for what, v := range notVectors() {
		wantShown(t, "NormOf "+what, wrapped(impl.NormOf(v)), float32(0), false)
	}
}

func TestDotOf(t *testing.T) {
	rows := []struct {
		v, w []float32
		want uint32
	}{
		{[]float32{1, 2}, []float32{3, 4}, 0x41300000},
		{[]float32{5}, []float32{-3}, 0xc1700000},
		{[]float32{1, 1, 1}, []float32{1e+08, 1, -1e+08}, plusZero},
		{[]float32{1, 1, 1}, []float32{1e+08, -1e+08, 1}, oneBits},
		{[]float32{0.1, 0.2, 0.3}, []float32{0.7, 0.5, 0.9}, 0x3ee147ae},
		{[]float32{1, 2, 3}, []float32{4, -5, 2}, plusZero},
		{[]float32{3}, []float32{0}, plusZero},
		{numbers(minusZero), numbers(oneBits), plusZero},
		{numbers(minusZero, minusZero), numbers(plusZero, plusZero), plusZero},
		{numbers(plusZero, minusZero), numbers(0xbf800000, oneBits), plusZero},
		{numbers(leastBits), numbers(0x3f000000), plusZero},
		{numbers(leastBits), numbers(0x3f000001), leastBits},
		{numbers(leastBits | minusZero), numbers(oneBits), leastBits | minusZero},
		{numbers(greatest), numbers(oneBits), greatest},
		{numbers(greatest, greatest), numbers(oneBits, 0xbf800000), plusZero},
		{numbers(0x3f800800, oneBits), numbers(0x3f800800, 0xbf801000), plusZero},
		{numbers(greatest, oneBits), numbers(0xbf800000, 0x40000000), greatest | minusZero},
		{roughVector(32, 7), roughVector(32, 11), 0x43d43853},
		{roughVector(31, 5), roughVector(31, 3), 0x43b9ab87},
		{roughVector(17, 2), roughVector(17, 2), 0x4493b0a5},
	}
	for _, row := range rows {
		wantShown(t, "DotOf "+shown(row.v, row.w), wrapped(impl.DotOf(row.v, row.w)), number(row.want), true)
		wantShown(t, "DotOf "+shown(row.w, row.v), wrapped(impl.DotOf(row.w, row.v)), number(row.want), true)
	}
}

func TestDotOfWithInvalidOnes(t *testing.T) {
	fails := []struct{ v, w []float32 }{
		{numbers(greatest), numbers(0x3f800001)},
		{numbers(greatest, greatest), numbers(oneBits, oneBits)},
		{numbers(greatest, greatest), numbers(0x40000000, 0xc0000000)},
		{numbers(greatest, greatest, greatest|minusZero), numbers(oneBits, oneBits, oneBits)},
		{numbers(greatest|minusZero, greatest|minusZero), numbers(oneBits, oneBits)},
		{numbers(greatest, oneBits), numbers(0x40000000, oneBits)},
		{[]float32{1}, []float32{1, 2}},
		{[]float32{1, 2, 3}, []float32{1, 2}},
		{countUp(32), countUp(31)},
		{countUp(32), countUp(33)},
	}
	for what, v := range notVectors() {
		fails = append(fails, struct{ v, w []float32 }{v, v}, struct{ v, w []float32 }{v, repeated(float32(1), len(v))})
		wantShown(t, "DotOf a vector of another length and "+what, wrapped(impl.DotOf([]float32{1, 2, 3}, v)), float32(0), false)
	}
	for _, row := range fails {
		wantShown(t, "DotOf "+shown(len(row.v), row.w), wrapped(impl.DotOf(row.v, row.w)), float32(0), false)
		wantShown(t, "DotOf "+shown(row.w, len(row.v)), wrapped(impl.DotOf(row.w, row.v)), float32(0), false)
	}
}

func TestSignRow(t *testing.T) {
	// The bits of the sum of powers of 2 tell all signs.
	powers := toldNumbers(24, func(i int) float32 { return float32(int(1) << i) })
	rows := []struct {
		v    []float32
		salt int64
		want uint32
	}{
		{[]float32{0, 0}, 5, plusZero},
		{[]float32{1}, 3, oneBits},
		{[]float32{1}, 0, 0xbf800000},
		{[]float32{7}, greatestKey, 0x40e00000},
		{[]float32{1, 2}, 0, 0xc0400000},
		{[]float32{1, 2}, 1, oneBits},
		{[]float32{1, 2}, 3, 0xbf800000},
		{[]float32{1, 2}, greatestKey, 0x40400000},
		{[]float32{0.1, 0.2, 0.3, 0.4, 0.5}, 5, 0x3f000000},
		{[]float32{1e+08, 1, 1e+08}, 3, 0x4d3ebc20},
		{powers, 0, 0xcb15668f},
		{powers, 1, 0xcb6a221b},
		{powers, 2, 0xcb662e5f},
		{powers, 7, 0x49fcf028},
		{powers, greatestKey, 0x4af5f28e},
		{numbers(minusZero), 0, plusZero},
		{numbers(minusZero), 3, plusZero},
		{numbers(plusZero, minusZero), 5, plusZero},
		{numbers(greatest), 0, greatest | minusZero},
		{numbers(greatest), 3, greatest},
		{numbers(greatest, greatest), 5, plusZero},
		{numbers(leastBits), 0, leastBits | minusZero},
		{numbers(mostSubBit, leastBits), 5, 0x807ffffe},
		{numbers(greatest, greatest, greatest|minusZero), 5, greatest | minusZero},
		{roughVector(32, 7), 0, 0xc2533333},
		{roughVector(32, 11), 12345, 0x40199986},
		{roughVector(31, 5), greatestKey, 0xc24f999b},
	}
	for _, row := range rows {
		wantShown(t, "SignRow "+shown(row.v, row.salt), wrapped(impl.SignRow(row.v, row.salt)), number(row.want), true)
	}
	for _, v := range [][]float32{
		numbers(greatest, greatest),
		numbers(greatest|minusZero, greatest|minusZero),
		numbers(greatest, 0x73000000),
		numbers(greatest, greatest, greatest|minusZero),
	} {
		wantShown(t, "SignRow "+shown(v), wrapped(impl.SignRow(v, 34)), float32(0), false)
	}
	for what, v := range notVectors() {
		wantShown(t, "SignRow "+what, wrapped(impl.SignRow(v, 3)), float32(0), false)
	}
	for _, salt := range wrongSalts {
		wantShown(t, "SignRow "+impl.Decimal(salt), wrapped(impl.SignRow([]float32{1}, salt)), float32(0), false)
	}
}

// bySalts are the functions that tell numbers by salts.
func bySalts() map[string]func(v []float32, salts []int64) ([]float32, bool) {
	return map[string]func(v []float32, salts []int64) ([]float32, bool){"SignSketch": impl.SignSketch, "ShrinkVector": impl.ShrinkVector}
}

func TestSignSketch(t *testing.T) {
	rows := []struct {
		v           []float32
		salts       []int64
		want, short []float32
	}{
		{[]float32{5}, []int64{3}, numbers(0x40a00000), numbers(0x40a00000)},
		{[]float32{5}, []int64{0}, numbers(0xc0a00000), numbers(0xc0a00000)},
		{[]float32{0}, []int64{1, 2}, numbers(plusZero, plusZero), numbers(plusZero, plusZero)},
		{[]float32{1, 2}, []int64{0, 1, 2, 3}, numbers(0xc0400000, oneBits, 0xc0400000, 0xbf800000), numbers(0xbfc00000, 0x3f000000, 0xbfc00000, 0xbf000000)},
		{[]float32{1, 2}, []int64{3, 3}, numbers(0xbf800000, 0xbf800000), numbers(0xbf3504f3, 0xbf3504f3)},
		{[]float32{1, 2}, []int64{1, 1, 0, 1}, numbers(oneBits, oneBits, 0xc0400000, oneBits), numbers(0x3f000000, 0x3f000000, 0xbfc00000, 0x3f000000)},
		{[]float32{1, 2, 3}, []int64{0, greatestKey, 7}, numbers(0xc0c00000, plusZero, 0xc0000000), numbers(0xc05db3d7, plusZero, 0xbf93cd3a)},
		{[]float32{0.1, 0.7}, []int64{5, 6, 7, 8, 9}, numbers(0x3f199999, 0xbf4ccccd, 0x3f199999, 0xbf4ccccd, 0x3f199999), numbers(0x3e89624e, 0xbeb72dbf, 0x3e89624e, 0xbeb72dbf, 0x3e89624e)},
		{[]float32{3, 4}, []int64{greatestKey}, numbers(0x40e00000), numbers(0x40e00000)},
		{numbers(minusZero), []int64{0, 3}, numbers(plusZero, plusZero), numbers(plusZero, plusZero)},
		{numbers(greatest, greatest), []int64{5, 1}, numbers(plusZero, plusZero), numbers(plusZero, plusZero)},
		{numbers(leastBits), []int64{3, 3}, numbers(leastBits, leastBits), numbers(leastBits, leastBits)},
		{numbers(leastBits), []int64{3, 3, 3, 3, 3}, numbers(leastBits, leastBits, leastBits, leastBits, leastBits), numbers(plusZero, plusZero, plusZero, plusZero, plusZero)},
		{numbers(leastBits | minusZero), []int64{3, 3, 3}, numbers(leastBits|minusZero, leastBits|minusZero, leastBits|minusZero), numbers(leastBits|minusZero, leastBits|minusZero, leastBits|minusZero)},
	}
	for _, row := range rows {
		wantShown(t, "SignSketch "+shown(row.v, row.salts), wrapped(impl.SignSketch(row.v, row.salts)), row.want, true)
		wantShown(t, "ShrinkVector "+shown(row.v, row.salts), wrapped(impl.ShrinkVector(row.v, row.salts)), row.short, true)
	}
}

func TestLongSketches(t *testing.T) {
	rows := []struct {
		n, turn, count int
		want, short    int64
	}{
		{32, 7, 32, 1237051769000, 1226007410968},
		{32, 11, 31, 1058386477441, 1048132006608},
		{1, 3, 32, 1441783611392, 1430560013072},
		{31, 2, 1, 1105933107, 1105933107},
		{20, 5, 7, 71813929388, 71490126093},
		{32, 4, 3, 19479763369, 19440342934},
	}
	for _, row := range rows {
		v, salts := roughVector(row.n, row.turn), told(row.count, seriesKey)
		sketch, one := impl.SignSketch(v, salts)
		short, two := impl.ShrinkVector(v, salts)
		wantShown(t, "a long sketch", shown(len(sketch), weighedBits(sketch), one, len(short), weighedBits(short), two), row.count, row.want, true, row.count, row.short, true)
	}
}

func TestSketchesWithInvalidOnes(t *testing.T) {
	calls := bySalts()
	calls["PlaneBits"] = func(v []float32, salts []int64) ([]float32, bool) {
		bits, ok := impl.PlaneBits(v, salts)
		return repeated(float32(1), len(bits)), ok
	}
	for name, call := range calls {
		for what, v := range notVectors() {
			wantShown(t, name+" of "+what, wrapped(call(v, []int64{3, 5})), []float32{}, false)
			wantShown(t, name+" of "+what+" without salts", wrapped(call(v, nil)), []float32{}, false)
		}
		for what, salts := range notSalts() {
			wantShown(t, name+" with "+what, wrapped(call([]float32{1, 2}, salts)), []float32{}, false)
		}
		// The signs of both are equal with the salt 34, but not with 5.
		for _, salts := range [][]int64{{34}, {34, 5}, {5, 34}, append(repeated(int64(5), 31), 34)} {
			wantShown(t, name+" that is infinite", wrapped(call(numbers(greatest, greatest), salts)), []float32{}, false)
		}
	}
}

func TestNormAbout(t *testing.T) {
	rows := []struct {
		sketch []float32
		groups int64
		want   uint32
	}{
		{[]float32{3, -3, 4, 4}, 1, 0x40624630},
		{[]float32{3, -3, 4, 4}, 2, 0x40400000},
		{[]float32{3, -3, 4, 4}, 4, 0x40400000},
		{[]float32{4, 3, 2, 1}, 1, 0x402f456f},
		{[]float32{4, 3, 2, 1}, 2, 0x3fca62c2},
		{[]float32{4, 3, 2, 1}, 4, 0x40000000},
		{[]float32{3, 2, 1}, 1, 0x400a417c},
		{[]float32{3, 2, 1}, 3, 0x40000000},
		{[]float32{1, 3, 2}, 3, 0x40000000},
		{[]float32{2, 4, 1, 3, 5}, 5, 0x40400000},
		{[]float32{2, 4, 1, 3, 5}, 1, 0x40544395},
		{[]float32{-7}, 1, 0x40e00000},
		{[]float32{1, 2, 3, 4, 5, 6}, 1, 0x40793e83},
		{[]float32{1, 2, 3, 4, 5, 6}, 2, 0x400a417c},
		{[]float32{1, 2, 3, 4, 5, 6}, 3, 0x40624630},
		{[]float32{1, 2, 3, 4, 5, 6}, 6, 0x40400000},
		{[]float32{6, 5, 1, 2, 3, 4}, 3, 0x40624630},
		{[]float32{6, 5, 1, 2, 3, 4}, 2, 0x4046fbed},
		{[]float32{0.1, 0.2, 0.3, 0.4}, 1, 0x3e8c378c},
		{[]float32{0.1, 0.2, 0.3, 0.4}, 2, 0x3e21e89c},
		{[]float32{0.1, 0.2, 0.3, 0.4}, 4, 0x3e4ccccd},
		{[]float32{0, 0}, 1, plusZero},
		{[]float32{0, 0}, 2, plusZero},
		{[]float32{4096, 1, 1, 1}, 1, 0x45000000},
		{numbers(minusZero), 1, plusZero},
		{numbers(plusZero, minusZero), 2, plusZero},
		{numbers(minusZero, plusZero), 1, plusZero},
		{numbers(greatest, oneBits), 2, oneBits},
		{numbers(oneBits, greatest, 0x40000000), 3, 0x40000000},
		{numbers(greatest, greatest, oneBits, oneBits), 2, oneBits},
		{numbers(oneBits, oneBits, greatest, greatest), 2, oneBits},
		{numbers(0x1e3ce508), 1, 0x1e3ce4e7},
		{numbers(0x1e3ce508, 0x1e3ce508, plusZero, plusZero), 1, 0x1e05917e},
		{numbers(leastBits, leastBits), 1, plusZero},
		{numbers(0x1a000001, plusZero), 1, plusZero},
		{numbers(0x1a000001, plusZero), 2, plusZero},
		{numbers(0x5f000000, 0x5f000000, 0x5f000000), 1, 0x5f000000},
		{numbers(0x5f000000, 0x5f000000, 0x5f000000), 3, 0x5f000000},
		{roughVector(32, 7), 1, 0x410e5490},
		{roughVector(32, 7), 2, 0x40ef2bab},
		{roughVector(32, 7), 4, 0x40f7b946},
		{roughVector(32, 7), 8, 0x40fa6ded},
		{roughVector(32, 7), 16, 0x4101e926},
		{roughVector(32, 7), 32, 0x40f00001},
		{roughVector(31, 5), 1, 0x41129dc2},
		{roughVector(31, 5), 31, 0x40a33334},
		{roughVector(30, 11), 1, 0x4112803e},
		{roughVector(30, 11), 2, 0x40d4cb42},
		{roughVector(30, 11), 3, 0x410ec761},
		{roughVector(30, 11), 5, 0x40f46854},
		{roughVector(30, 11), 6, 0x40dca20b},
		{roughVector(30, 11), 10, 0x4102d6aa},
		{roughVector(30, 11), 15, 0x40eba3f2},
		{roughVector(30, 11), 30, 0x40f9999a},
	}
	for _, row := range rows {
		wantShown(t, "NormAbout "+shown(row.sketch, row.groups), wrapped(impl.NormAbout(row.sketch, row.groups)), number(row.want), true)
	}
}

// notGroups are numbers of groups that do not divide so many numbers.
func notGroups(n int) []int64 {
	groups := []int64{0, -1, int64(-n), int64(n + 1), int64(2 * n), math.MinInt64, math.MaxInt64, 1 << 32}
	for i := 2; i < n; i++ {
		if n%i != 0 {
			groups = append(groups, int64(i), int64(-i))
		}
	}
	return groups
}

func TestGroupsWithInvalidOnes(t *testing.T) {
	for what, list := range notVectors() {
		for _, groups := range []int64{1, 0, int64(len(list))} {
			wantShown(t, "NormAbout "+what, wrapped(impl.NormAbout(list, groups)), float32(0), false)
			wantShown(t, "DotAbout "+what, wrapped(impl.DotAbout(list, list, groups)), float32(0), false)
			for _, other := range [][]float32{repeated(float32(1), len(list)), {1, 2}} {
				wantShown(t, "DotAbout at first "+what, wrapped(impl.DotAbout(list, other, groups)), float32(0), false)
				wantShown(t, "DotAbout at last "+what, wrapped(impl.DotAbout(other, list, groups)), float32(0), false)
			}
		}
	}
	for n := 1; n <= 32; n++ {
		for _, groups := range notGroups(n) {
			list := repeated(float32(1), n)
			wantShown(t, "NormAbout in "+impl.Decimal(groups), wrapped(impl.NormAbout(list, groups)), float32(0), false)
			wantShown(t, "DotAbout in "+impl.Decimal(groups), wrapped(impl.DotAbout(list, list, groups)), float32(0), false)
		}
		wantShown(t, "DotAbout of one more", wrapped(impl.DotAbout(countUp(n), countUp(n+1), 1)), float32(0), false)
		wantShown(t, "DotAbout of one less", wrapped(impl.DotAbout(countUp(n+1), countUp(n), 1)), float32(0), false)
	}
}

func TestNormAboutThatIsInfinite(t *testing.T) {
	rows := []struct {
		sketch []float32
		groups int64
	}{
		{numbers(greatest), 1},
		{numbers(greatest, oneBits), 1},
		{numbers(greatest, greatest, oneBits), 3},
		{numbers(oneBits, greatest, greatest), 3},
		{numbers(greatest, greatest), 2},
		{numbers(0x5f000000, 0x5f000000, 0x5f000000, 0x5f000000), 1},
		{numbers(greatest, oneBits, greatest, oneBits), 2},
	}
	for _, row := range rows {
		wantShown(t, "NormAbout "+shown(row.sketch, row.groups), wrapped(impl.NormAbout(row.sketch, row.groups)), float32(0), false)
	}
}

func TestDotAbout(t *testing.T) {
	rows := []struct {
		a, b   []float32
		groups int64
		want   uint32
	}{
		{[]float32{1, 2}, []float32{3, 4}, 1, 0x40b00000},
		{[]float32{1, 2}, []float32{3, 4}, 2, 0x40400000},
		{[]float32{5}, []float32{-3}, 1, 0xc1700000},
		{[]float32{1, 1, 1, 1}, []float32{4, -3, 2, -1}, 1, 0x3f000000},
		{[]float32{1, 1, 1, 1}, []float32{4, -3, 2, -1}, 2, 0x3f000000},
		{[]float32{1, 1, 1, 1}, []float32{4, -3, 2, -1}, 4, 0xbf800000},
		{[]float32{3, 2, 1}, []float32{1, 1, 1}, 1, 0x40000000},
		{[]float32{3, 2, 1}, []float32{1, 1, 1}, 3, 0x40000000},
		{[]float32{1, 2, 3, 4, 5, 6}, []float32{2, -1, 0.5, -3, 1, 1}, 1, 0x3daaaaab},
		{[]float32{1, 2, 3, 4, 5, 6}, []float32{2, -1, 0.5, -3, 1, 1}, 2, 0xbeaaaaab},
		{[]float32{1, 2, 3, 4, 5, 6}, []float32{2, -1, 0.5, -3, 1, 1}, 3, plusZero},
		{[]float32{1, 2, 3, 4, 5, 6}, []float32{2, -1, 0.5, -3, 1, 1}, 6, 0x3fc00000},
		{[]float32{1, 1, 1}, []float32{1e+08, 1, -1e+08}, 1, plusZero},
		{[]float32{0.1, 0.2, 0.3}, []float32{0.7, 0.5, 0.9}, 1, 0x3e162fc9},
		{[]float32{0.1, 0.2, 0.3}, []float32{0.7, 0.5, 0.9}, 3, 0x3dcccccd},
		{numbers(minusZero), numbers(oneBits), 1, plusZero},
		{numbers(plusZero, minusZero), numbers(oneBits, oneBits), 1, plusZero},
		{numbers(leastBits), numbers(0x3f000000), 1, plusZero},
		{numbers(leastBits, plusZero), numbers(oneBits, oneBits), 1, plusZero},
		{numbers(leastBits, leastBits, leastBits), numbers(oneBits, oneBits, oneBits), 1, leastBits},
		{numbers(greatest, oneBits, greatest), numbers(greatest, oneBits, greatest|minusZero), 3, oneBits},
		{numbers(greatest, oneBits, 0x40000000), numbers(greatest, oneBits, oneBits), 3, 0x40000000},
		{numbers(greatest|minusZero, oneBits, 0x40000000), numbers(greatest, oneBits, oneBits), 3, oneBits},
		{numbers(greatest, oneBits, oneBits, oneBits), numbers(greatest, oneBits, oneBits, oneBits), 4, oneBits},
		{numbers(0x3f800800, oneBits), numbers(0x3f800800, 0xbf801000), 1, plusZero},
		{numbers(greatest|minusZero, greatest, oneBits), numbers(oneBits, oneBits, oneBits), 1, 0x3eaaaaab},
		{roughVector(32, 7), roughVector(32, 11), 1, 0x41543853},
		{roughVector(32, 7), roughVector(32, 11), 2, 0xc182feb9},
		{roughVector(32, 7), roughVector(32, 11), 8, 0xc131d70b},
		{roughVector(32, 7), roughVector(32, 11), 32, plusZero},
		{roughVector(31, 5), roughVector(31, 3), 1, 0x413fa8cd},
		{roughVector(31, 5), roughVector(31, 3), 31, 0xc0f1eb87},
		{roughVector(30, 2), roughVector(30, 9), 3, 0x411fb22e},
		{roughVector(30, 2), roughVector(30, 9), 5, 0x412c8f5d},
		{roughVector(30, 2), roughVector(30, 9), 10, 0x418ab853},
	}
	for _, row := range rows {
		wantShown(t, "DotAbout "+shown(row.a, row.b, row.groups), wrapped(impl.DotAbout(row.a, row.b, row.groups)), number(row.want), true)
		wantShown(t, "DotAbout "+shown(row.b, row.a, row.groups), wrapped(impl.DotAbout(row.b, row.a, row.groups)), number(row.want), true)
	}
}

func TestDotAboutThatIsInfinite(t *testing.T) {
	// In the last ones, a mean is not a number, which has no place in an ascending order.
	rows := []struct {
		a, b   []float32
		groups int64
	}{
		{numbers(greatest), numbers(greatest), 1},
		{numbers(greatest | minusZero), numbers(greatest), 1},
		{numbers(greatest|minusZero, oneBits), numbers(greatest, oneBits), 2},
		{numbers(greatest, oneBits, greatest), numbers(greatest, oneBits, greatest), 3},
		{numbers(greatest|minusZero, oneBits, greatest|minusZero), numbers(greatest, oneBits, greatest), 3},
		{numbers(greatest, greatest), numbers(oneBits, oneBits), 1},
		{numbers(greatest, greatest), numbers(greatest, greatest|minusZero), 1},
		{numbers(greatest, greatest, oneBits, oneBits), numbers(greatest, greatest|minusZero, oneBits, oneBits), 2},
		{numbers(oneBits, oneBits, greatest, greatest), numbers(oneBits, oneBits, greatest, greatest|minusZero), 2},
		{numbers(greatest, greatest, oneBits, oneBits, oneBits, oneBits), numbers(greatest, greatest|minusZero, oneBits, oneBits, oneBits, oneBits), 3},
		{numbers(oneBits, oneBits, oneBits, oneBits, greatest, greatest), numbers(oneBits, oneBits, oneBits, oneBits, greatest, greatest|minusZero), 3},
		{numbers(oneBits, oneBits, greatest, greatest, oneBits, oneBits), numbers(oneBits, oneBits, greatest|minusZero, greatest, oneBits, oneBits), 3},
	}
	for _, row := range rows {
		wantShown(t, "DotAbout "+shown(row.a, row.b, row.groups), wrapped(impl.DotAbout(row.a, row.b, row.groups)), float32(0), false)
	}
}

// bitsFrom are bits, told by the digits 1 and 0.
func bitsFrom(digits string) []bool {
	bits := make([]bool, len(digits))
	for i := range bits {
		bits[i] = digits[i] == '1'
	}
	return bits
}

func TestPlaneBits(t *testing.T) {
	rows := []struct {
		v     []float32
		salts []int64
		want  string
	}{
		{[]float32{0}, []int64{9}, "1"},
		{[]float32{5}, []int64{3}, "1"},
		{[]float32{5}, []int64{0}, "0"},
		{[]float32{-5}, []int64{0, 3}, "10"},
		{[]float32{1, 2}, []int64{0, 1, 2, 3}, "0100"},
		{[]float32{3, 3}, []int64{0, 1, 2, 3}, "0101"},
		{[]float32{1, 2, 3}, []int64{7, 7, 3, 7}, "0010"},
		{numbers(minusZero), []int64{0, 3}, "11"},
		{numbers(minusZero, plusZero), []int64{5, 1}, "11"},
		{numbers(leastBits), []int64{0, 3}, "01"},
		{numbers(leastBits | minusZero), []int64{0, 3}, "10"},
		{numbers(greatest, greatest), []int64{5, 1}, "11"},
		{roughVector(32, 7), told(32, seriesKey), "00010000011010100110000111001100"},
		{roughVector(32, 11), told(31, seriesKey), "0011110001100000110010100111110"},
		{roughVector(1, 3), told(32, seriesKey), "10101100010010010010000100010000"},
		{roughVector(20, 5), told(16, seriesKey), "0111000010100100"},
		{repeated(float32(0), 32), upTo(32), "11111111111111111111111111111111"},
	}
	for _, row := range rows {
		wantShown(t, "PlaneBits "+shown(row.v, row.salts), wrapped(impl.PlaneBits(row.v, row.salts)), bitsFrom(row.want), true)
	}
}
