package tests

import (
	"math"
	"slices"
	"testing"

	"loop.example/g01347/impl"
)

// levels are the levels with these lists, made without the program.
func levels(room, seed int64, lists ...[]float32) impl.Levels {
	return impl.Levels{Room: room, Seed: seed, Lists: lists}
}

// evenLevels have n lists with count times the same number.
func evenLevels(room, seed int64, n, count int, x float32) impl.Levels {
	lists := make([][]float32, n)
	for h := range lists {
		lists[h] = repeated(x, count)
	}
	return levels(room, seed, lists...)
}

// greatLevels stand for 2000000 numbers.
func greatLevels() impl.Levels {
	l := evenLevels(64, 0, 16, 0, 0)
	l.Lists[15], l.Lists[10], l.Lists[7] = countUp(61), []float32{-1}, []float32{-2}
	return l
}

// invalidLevels pass each limit of levels by one, and far.
func invalidLevels() map[string]impl.Levels {
	invalid := map[string]impl.Levels{
		"the zero struct":        {},
		"a room of 0":            levels(0, 0, nil),
		"a room of 1":            levels(1, 0, nil),
		"a room of 3":            levels(3, 0, nil),
		"a room of 63":           levels(63, 0, nil),
		"a room of 65":           levels(65, 0, nil),
		"a room of 66":           levels(66, 0, nil),
		"a room below":           levels(-2, 0, nil),
		"the least room":         levels(math.MinInt64, 0, nil),
		"the greatest room":      levels(math.MaxInt64, 0, nil),
		"a seed below":           levels(2, -1, nil),
		"a seed above":           levels(2, greatestKey+1, nil),
		"the greatest seed":      levels(2, math.MaxInt64, nil),
		"nil lists":              levels(2, 0),
		"no lists":               levels(2, 0, [][]float32{}...),
		"17 lists":               evenLevels(2, 0, 17, 0, 0),
		"5000 lists":             evenLevels(64, 0, 5000, 1, 0),
		"a full list":            levels(2, 0, []float32{1, 2}),
		"a last list that is so": levels(4, 0, nil, nil, countUp(4)),
		"a list of 64":           levels(64, 0, countUp(64)),
		"a list of 5000":         levels(64, 0, nil, countUp(5000)),
	}
	for _, bits := range notFinite {
		what := impl.Decimal(int64(bits))
		invalid["at first "+what] = levels(2, 0, numbers(bits))
		invalid["at last "+what] = levels(4, 0, nil, nil, numbers(0, 0, bits))
	}
	return invalid
}

// someLevels are valid, some of them at their limits.
func someLevels() []impl.Levels {
	return []impl.Levels{
		levels(2, 0, nil),
		levels(64, greatestKey, []float32{}, nil),
		levels(2, 1, []float32{5}),
		levels(4, 0, []float32{3, 1, 2}, nil, numbers(plusZero, minusZero)),
		evenLevels(2, 1, 16, 0, 0),
		evenLevels(2, 0, 16, 1, 7),
		evenLevels(64, greatestKey, 16, 63, number(greatest)),
		levels(64, 7, numbers(greatest|minusZero, leastBits|minusZero)),
		greatLevels(),
	}
}

func TestValidLevels(t *testing.T) {
	for _, l := range someLevels() {
		wantTrue(t, "ValidLevels "+shown(l), impl.ValidLevels(l))
	}
	for what, l := range invalidLevels() {
		wantFalse(t, "ValidLevels with "+what, impl.ValidLevels(l))
	}
}

func TestPutLevels(t *testing.T) {
	both, zeros := numbers(minusZero, plusZero), [][]float32{numbers(plusZero), numbers(minusZero)}
	rows := []struct {
		l    impl.Levels
		x    float32
		want impl.Levels
	}{
		{levels(2, 0, nil), 3, levels(2, 0, []float32{3})},
		{levels(2, 0, []float32{3}), 1, levels(2, 1013904223, nil, []float32{1})},
		{levels(2, 1, []float32{3}), 1, levels(2, 1015568748, nil, []float32{3})},
		{levels(2, greatestKey, []float32{3}), 1, levels(2, 1012239698, nil, []float32{3})},
		{levels(2, 0, []float32{1}, nil, nil), 3, levels(2, 1013904223, nil, []float32{1}, nil)},
		{levels(2, 5, nil, nil, nil), 3, levels(2, 5, []float32{3}, nil, nil)},
		{levels(2, 0, []float32{5}, []float32{4}, []float32{3}), 6, levels(2, 3519870697, nil, nil, nil, []float32{3})},
		{levels(2, 1, []float32{5}, []float32{4}, []float32{3}), 6, levels(2, 2165703038, nil, nil, nil, []float32{4})},
		{levels(4, 0, []float32{3, 1, 2}, []float32{9}), 0, levels(4, 1013904223, nil, []float32{9, 0, 2})},
		{levels(4, 1, []float32{3, 1, 2}, []float32{9}), 0, levels(4, 1015568748, nil, []float32{9, 1, 3})},
		{levels(4, 1, []float32{3, 1}, []float32{9}), 0, levels(4, 1, []float32{3, 1, 0}, []float32{9})},
		{levels(4, 0, []float32{7, 7, 7}), 7, levels(4, 1013904223, nil, []float32{7, 7})},
		{levels(2, 0, zeros[0]), both[0], levels(2, 1013904223, nil, zeros[0])},
		{levels(2, 1, zeros[0]), both[0], levels(2, 1015568748, nil, zeros[1])},
		{levels(2, 0, zeros[1]), both[1], levels(2, 1013904223, nil, zeros[1])},
		{levels(2, 1, zeros[1]), both[1], levels(2, 1015568748, nil, zeros[0])},
		{levels(64, 0, countUp(62)), 62, levels(64, 0, countUp(63))},
		{levels(64, 0, countUp(63)), 63, levels(64, 1013904223, nil, toldNumbers(32, func(i int) float32 { return float32(2 * i) }))},
		{levels(64, 1, countUp(63)), 63, levels(64, 1015568748, nil, toldNumbers(32, func(i int) float32 { return float32(2*i + 1) }))},
	}
	for _, row := range rows {
		wantShown(t, "PutLevels", wrapped(impl.PutLevels(row.l, row.x)), row.want, true)
	}
	for what, l := range invalidLevels() {
		wantShown(t, "PutLevels with "+what, wrapped(impl.PutLevels(l, 5)), impl.Levels{}, false)
	}
	for _, bits := range notFinite {
		wantShown(t, "PutLevels no finite number", wrapped(impl.PutLevels(levels(2, 0, nil), number(bits))), impl.Levels{}, false)
	}
}

func TestPutLevelsAtTheGreatestNumberOfLists(t *testing.T) {
	wantShown(t, "a 17th list", wrapped(impl.PutLevels(evenLevels(2, 0, 16, 1, 7), 7)), impl.Levels{}, false)
	wantShown(t, "a 17th list", wrapped(impl.PutLevels(evenLevels(64, 0, 16, 63, 7), 7)), impl.Levels{}, false)
	fifteen, ok := impl.PutLevels(evenLevels(2, 0, 15, 1, 7), 7)
	wantTrue(t, "a 16th list", ok)
	want := evenLevels(2, fifteen.Seed, 16, 0, 0)
	want.Lists[15] = []float32{7}
	wantShown(t, "a 16th list", shown(fifteen), want)
	// A list has no place for what is settled into it, but is not full.
	open := evenLevels(2, 0, 16, 1, 7)
	open.Lists[9] = nil
	settled, ok := impl.PutLevels(open, 7)
	wantTrue(t, "an open list", ok && len(settled.Lists) == 16 && len(settled.Lists[8]) == 0 && len(settled.Lists[9]) == 1)
	wantShown(t, "a number more than 2000000", wrapped(impl.PutLevels(greatLevels(), 5)), func() impl.Levels {
		l := greatLevels()
		l.Lists[0] = []float32{5}
		return l
	}(), true)
}

// digestLevels tells long levels of a series by weighed sums.
func digestLevels(l impl.Levels, ok bool) string {
	lengths := []int{}
	for _, list := range l.Lists {
		lengths = append(lengths, len(list))
	}
	return shown(l.Room, l.Seed, lengths, weighed(quarters(slices.Concat(l.Lists...))), ok)
}

// seriesLevels have n numbers of a series from an index on.
func seriesLevels(t *testing.T, room, seed int64, from, n int) impl.Levels {
	t.Helper()
	l := levels(room, seed, nil)
	for i := range n {
		next, ok := impl.PutLevels(l, seriesNumber(from+i))
		wantTrue(t, "PutLevels", ok)
		l = next
	}
	return l
}

func TestSeriesOfLevels(t *testing.T) {
	rows := []struct {
		room, seed, n int64
		want          string
		ranks         [4]int64
		quantiles     [5]float32
	}{
		{2, 0, 255, shown(692712861, []int{1, 1, 1, 1, 1, 1, 1, 1}, 191), [4]int64{128, 184, 187, 255}, [5]float32{-20, -20, -20, 23, 32.25}},
		{2, 1, 256, shown(2368812458, []int{0, 0, 0, 0, 0, 0, 0, 0, 1}, 75), [4]int64{0, 0, 0, 256}, [5]float32{18.75, 18.75, 18.75, 18.75, 18.75}},
		{2, 1, 2000, shown(316435619, []int{0, 0, 0, 0, 1, 0, 1, 1, 1, 1, 1}, 495), [4]int64{0, 656, 912, 2000}, [5]float32{-16.5, -6.5, 18.75, 18.75, 27.25}},
		{4, 0, 100, shown(408928405, []int{0, 2, 0, 0, 2, 2}, 447), [4]int64{32, 34, 50, 100}, [5]float32{-20, -20, 0.5, 18.75, 23.25}},
		{4, greatestKey, 1001, shown(326592501, []int{1, 0, 2, 0, 2, 2, 2, 2, 2}, 2122), [4]int64{0, 500, 500, 1001}, [5]float32{-19.75, -19.75, 10.75, 22.5, 27}},
		{6, 123456789, 777, shown(454395413, []int{3, 3, 0, 0, 0, 0, 0, 0, 3}, 1518), [4]int64{0, 260, 262, 777}, [5]float32{-6, -4.75, 14, 27.25, 27.25}},
		{64, 1, 64, shown(1015568748, []int{0, 32}, 37007), [4]int64{0, 20, 32, 64}, [5]float32{-19.25, -12, 9.75, 28.5, 32.5}},
		{64, 7, 5000, shown(1007789343, []int{8, 0, 32, 32, 32, 0, 0, 32}, 360242), [4]int64{16, 1720, 2526, 5000}, [5]float32{-20, -12.75, 8.5, 27.5, 32.5}},
		{10, 1, 3333, shown(1137112624, []int{3, 5, 0, 5, 5, 0, 0, 5, 0, 5}, 16925), [4]int64{0, 1313, 1469, 3333}, [5]float32{-16.25, -7.5, 13.5, 30.75, 32.5}},
	}
	for _, row := range rows {
		l := seriesLevels(t, row.room, row.seed, 0, int(row.n))
		wantSame(t, "a series", digestLevels(l, true), shown(row.room)+row.want+shown(true))
		wantShown(t, "LevelsCount", wrapped(impl.LevelsCount(l)), row.n, true)
		for i, x := range []float32{-20, 0, 10.25, 40} {
			wantShown(t, "LevelsRank", wrapped(impl.LevelsRank(l, x)), row.ranks[i], true)
		}
		for i, share := range []float32{0, 0.1, 0.5, 0.9, 1} {
			wantShown(t, "LevelsQuantile", wrapped(impl.LevelsQuantile(l, share)), row.quantiles[i], true)
		}
	}
}

func TestLevelsCount(t *testing.T) {
	rows := []struct {
		l    impl.Levels
		want int64
	}{
		{levels(2, 0, nil), 0},
		{evenLevels(64, 0, 16, 0, 0), 0},
		{levels(2, 0, []float32{5}), 1},
		{levels(4, 0, []float32{5, 6, 7}, nil, []float32{8}), 7},
		{evenLevels(2, 0, 16, 1, 7), 65535},
		{evenLevels(32, 0, 16, 30, 7), 1966050},
		{greatLevels(), 2000000},
	}
	for _, row := range rows {
		wantShown(t, "LevelsCount", wrapped(impl.LevelsCount(row.l)), row.want, true)
	}
	more := greatLevels()
	more.Lists[0] = []float32{99}
	for _, l := range []impl.Levels{more, evenLevels(32, 0, 16, 31, 7), evenLevels(64, 0, 16, 63, 7)} {
		wantTrue(t, "valid levels", impl.ValidLevels(l))
		wantShown(t, "LevelsCount above 2000000", wrapped(impl.LevelsCount(l)), int64(0), false)
		wantShown(t, "LevelsRank above 2000000", wrapped(impl.LevelsRank(l, -5)), int64(0), false)
		wantShown(t, "LevelsQuantile above 2000000", wrapped(impl.LevelsQuantile(l, 0)), float32(0), false)
	}
	for what, l := range invalidLevels() {
		wantShown(t, "LevelsCount with "+what, wrapped(impl.LevelsCount(l)), int64(0), false)
	}
}

func TestLevelsRank(t *testing.T) {
	some := levels(4, 0, []float32{5, 1}, []float32{3, 5}, []float32{2})
	zeros := levels(4, 0, numbers(minusZero, leastBits), numbers(plusZero), numbers(leastBits|minusZero))
	rows := []struct {
		l    impl.Levels
		x    float32
		want int64
	}{
		{some, 0.5, 0}, {some, 1, 1}, {some, 2, 5}, {some, 2.9, 5}, {some, 3, 7}, {some, 4.9, 7}, {some, 5, 10},
		{some, number(greatest), 10}, {some, number(greatest | minusZero), 0},
		{zeros, 0, 7}, {zeros, number(minusZero), 7}, {zeros, number(leastBits | minusZero), 4}, {zeros, number(leastBits), 8},
		{levels(2, 0, nil), 5, 0},
		{greatLevels(), -2, 128}, {greatLevels(), -1, 1152}, {greatLevels(), 59, 1967232}, {greatLevels(), 60, 2000000},
	}
	for _, row := range rows {
		wantShown(t, "LevelsRank", wrapped(impl.LevelsRank(row.l, row.x)), row.want, true)
	}
	for what, l := range invalidLevels() {
		wantShown(t, "LevelsRank with "+what, wrapped(impl.LevelsRank(l, 5)), int64(0), false)
	}
	for _, bits := range notFinite {
		wantShown(t, "LevelsRank of no finite number", wrapped(impl.LevelsRank(some, number(bits))), int64(0), false)
	}
}

func TestLevelsQuantile(t *testing.T) {
	some := levels(4, 0, []float32{5, 1}, []float32{3}, []float32{2})
	for i, want := range []float32{1, 2, 2, 2, 2, 3, 3, 5} {
		wantShown(t, "up to a rank", wrapped(impl.LevelsQuantile(some, float32(i+1)/8)), want, true)
		wantShown(t, "above a rank", wrapped(impl.LevelsQuantile(some, float32(i)/8+0.01)), want, true)
	}
	for _, n := range []int{1, 4, 10} {
		for share, k := range sharesOf(n) {
			wantShown(t, "LevelsQuantile", wrapped(impl.LevelsQuantile(levels(12, 0, countUp(n)), number(share))), float32(k-1), true)
		}
	}
	rows := []struct {
		share uint32
		want  float32
	}{
		{plusZero, -2}, {leastBits, -2}, {0x388637bd, -2}, {0x38866d6d, -1}, {0x3a16feb5, -1}, {0x3a170c21, 0}, {0x3c8aefb3, 0}, {0x3c8af054, 1}, {0x3f000000, 30}, {0x3f7fffff, 60}, {0x3f800000, 60},
	}
	for _, row := range rows {
		wantShown(t, "2000000 and the share "+shown(number(row.share)), wrapped(impl.LevelsQuantile(greatLevels(), number(row.share))), row.want, true)
	}
	zeros := levels(4, 0, numbers(plusZero, minusZero), numbers(minusZero), numbers(plusZero))
	for i, want := range []uint32{plusZero, minusZero, minusZero, minusZero, plusZero, plusZero, plusZero, plusZero} {
		wantShown(t, "lists in order for equal ones", wrapped(impl.LevelsQuantile(zeros, float32(i+1)/8)), number(want), true)
	}
	wantShown(t, "empty levels", wrapped(impl.LevelsQuantile(levels(2, 0, nil), 0.5)), float32(0), false)
	wantShown(t, "16 empty lists", wrapped(impl.LevelsQuantile(evenLevels(2, 0, 16, 0, 0), 0)), float32(0), false)
	for what, l := range invalidLevels() {
		wantShown(t, "LevelsQuantile with "+what, wrapped(impl.LevelsQuantile(l, 0.5)), float32(0), false)
	}
	for _, bits := range wrongShares {
		wantShown(t, "LevelsQuantile with no share", wrapped(impl.LevelsQuantile(some, number(bits))), float32(0), false)
	}
}

func TestMergeLevels(t *testing.T) {
	rows := []struct{ a, b, want impl.Levels }{
		{levels(2, 0, []float32{3}), levels(2, 9, []float32{3}), levels(2, 1013904223, nil, []float32{3})},
		{levels(4, 5, []float32{3}), levels(4, 9, []float32{1}), levels(4, 5, []float32{3, 1})},
		{levels(4, 5, nil), levels(4, 9, nil), levels(4, 5, nil)},
		{levels(4, 5, nil, nil), levels(4, 9, nil, nil, nil), levels(4, 5, nil, nil, nil)},
		{levels(4, 5, nil, []float32{1}, []float32{2}), levels(4, 9, []float32{3}), levels(4, 5, []float32{3}, []float32{1}, []float32{2})},
		{levels(4, 5, []float32{3}), levels(4, 9, nil, []float32{1}, []float32{2}), levels(4, 5, []float32{3}, []float32{1}, []float32{2})},
		{levels(4, 0, []float32{1, 2, 3}, []float32{10, 11, 12}), levels(4, 77, []float32{4, 5, 6}, []float32{13, 14, 15}), levels(4, 2868466484, []float32{5, 6}, nil, nil, []float32{11, 14})},
		{levels(4, 1, []float32{1, 2, 3}, []float32{10, 11, 12}), levels(4, 77, []float32{4, 5, 6}, []float32{13, 14, 15}), levels(4, 3027450565, []float32{5, 6}, nil, nil, []float32{4, 12})},
		{levels(4, 5, []float32{1}), levels(4, 77, []float32{6, 5, 4}, []float32{13, 14, 15}, []float32{2}), levels(4, 3144284287, nil, []float32{6}, []float32{2, 4, 14})},
		{levels(2, 0, numbers(plusZero)), levels(2, 9, numbers(minusZero)), levels(2, 1013904223, nil, numbers(plusZero))},
	}
	for _, row := range rows {
		wantShown(t, "MergeLevels", wrapped(impl.MergeLevels(row.a, row.b)), row.want, true)
	}
	for _, room := range []int64{2, 6, 64} {
		wantShown(t, "MergeLevels with another room", wrapped(impl.MergeLevels(levels(4, 0, nil), levels(room, 0, nil))), impl.Levels{}, false)
	}
	full := evenLevels(2, 0, 16, 1, 7)
	for _, l := range []impl.Levels{full, evenLevels(2, 0, 1, 1, 7), levels(2, 0, append(make([][]float32, 15), []float32{7})...)} {
		wantShown(t, "MergeLevels to a 17th list", wrapped(impl.MergeLevels(full, l)), impl.Levels{}, false)
		wantShown(t, "MergeLevels to a 17th list", wrapped(impl.MergeLevels(l, full)), impl.Levels{}, false)
	}
	wantShown(t, "MergeLevels with nothing", wrapped(impl.MergeLevels(full, levels(2, 9, nil))), full, true)
	fifteen, ok := impl.MergeLevels(evenLevels(2, 0, 15, 1, 7), evenLevels(2, 0, 15, 1, 7))
	wantTrue(t, "MergeLevels to a 16th list", ok && len(fifteen.Lists) == 16)
}

func TestSeriesOfMergedLevels(t *testing.T) {
	rows := []struct {
		room          int64
		n, m          int
		first, second string
	}{
		{2, 100, 101, shown(2146152485, []int{1, 0, 0, 1, 0, 0, 1, 1}, 367), shown(2029549878, []int{1, 0, 0, 1, 0, 0, 1, 1}, 467)},
		{4, 500, 333, shown(4227349526, []int{1, 0, 0, 0, 0, 2, 0, 2, 2}, 873), shown(2157344737, []int{1, 0, 0, 0, 0, 2, 0, 2, 2}, 1133)},
		{6, 1000, 3, shown(3934386388, []int{1, 3, 3, 3, 0, 0, 3, 0, 3}, 6024), shown(1017233273, []int{1, 3, 3, 3, 0, 0, 3, 0, 3}, 5696)},
		{64, 3000, 2999, shown(1855664280, []int{47, 32, 0, 32, 32, 32, 0, 32}, 761976), shown(2169742549, []int{47, 32, 0, 32, 32, 32, 0, 32}, 743046)},
	}
	for _, row := range rows {
		a, b := seriesLevels(t, row.room, 1, 0, row.n), seriesLevels(t, row.room, 2, 50, row.m)
		wantSame(t, "a merged series", digestLevels(impl.MergeLevels(a, b)), shown(row.room)+row.first+shown(true))
		wantSame(t, "a series merged in the other order", digestLevels(impl.MergeLevels(b, a)), shown(row.room)+row.second+shown(true))
	}
}
