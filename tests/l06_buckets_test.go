package tests

import (
	"math"
	"testing"

	"loop.example/g01347/impl"
)

// window is the window with these buckets, made without the program.
func window(long, parts int64, times, sizes []int64) impl.Window {
	return impl.Window{Long: long, Parts: parts, Times: times, Sizes: sizes}
}

// fallingSizes has so many sizes of each power of 2, the last of which is 1.
func fallingSizes(counts ...int) []int64 {
	sizes := []int64{}
	for i, count := range counts {
		sizes = append(sizes, repeated(int64(1)<<(len(counts)-1-i), count)...)
	}
	return sizes
}

// evenCounts are n times the same count.
func evenCounts(count, n int) []int {
	return repeated(count, n)
}

// fallenWindow has such sizes at the times 0, 1 and so on.
func fallenWindow(parts int64, counts ...int) impl.Window {
	sizes := fallingSizes(counts...)
	return window(1000, parts, upTo(len(sizes)), sizes)
}

// wrongTimes are no times.
var wrongTimes = []int64{-1, impl.MaxTime + 1, math.MinInt64, math.MaxInt64}

// wrongLongs are as long as no window is.
var wrongLongs = []int64{0, -1, impl.MaxTime + 1, math.MinInt64, math.MaxInt64}

// notTimes are lists that are no times of a stream.
func notTimes() map[string][]int64 {
	return map[string][]int64{
		"falling times":       {2, 1},
		"a fall at the end":   {1, 2, 2, 1},
		"a time below":        {-1},
		"a time above":        {impl.MaxTime + 1},
		"a last time above":   {0, impl.MaxTime, impl.MaxTime + 1},
		"the least time":      {math.MinInt64, 0},
		"the greatest time":   {0, math.MaxInt64},
		"129 times":           upTo(129),
		"129 equal times":     repeated(int64(0), 129),
		"5000 times":          repeated(int64(7), 5000),
		"5000 times too high": repeated(int64(math.MaxInt64), 5000),
	}
}

// invalidWindows pass each limit of windows by one, and far.
func invalidWindows() map[string]impl.Window {
	invalid := map[string]impl.Window{
		"the zero struct":          {},
		"a long of 0":              window(0, 1, nil, nil),
		"a long below":             window(-1, 1, nil, nil),
		"a long above":             window(impl.MaxTime+1, 1, nil, nil),
		"the least long":           window(math.MinInt64, 1, []int64{1}, []int64{1}),
		"the greatest long":        window(math.MaxInt64, 1, []int64{1}, []int64{1}),
		"0 parts":                  window(1, 0, nil, nil),
		"0 parts with a time":      window(1, 0, []int64{1}, []int64{1}),
		"parts below":              window(1, -1, []int64{1}, []int64{1}),
		"17 parts":                 window(1, 17, nil, nil),
		"the least parts":          window(1, math.MinInt64, []int64{1}, []int64{1}),
		"the greatest parts":       window(1, math.MaxInt64, []int64{1}, []int64{1}),
		"a size too few":           window(1, 1, []int64{1, 2}, []int64{1}),
		"a size too many":          window(1, 1, []int64{1}, []int64{1, 1}),
		"only times":               window(1, 1, []int64{1}, nil),
		"only sizes":               window(1, 1, nil, []int64{1}),
		"a size of 0":              window(1, 1, []int64{1}, []int64{0}),
		"a last size of 0":         window(1, 1, []int64{1, 2}, []int64{1, 0}),
		"a size below":             window(1, 1, []int64{1}, []int64{-1}),
		"a size of -2":             window(1, 1, []int64{1}, []int64{-2}),
		"the least size":           window(1, 1, []int64{1}, []int64{math.MinInt64}),
		"the greatest size":        window(1, 1, []int64{1}, []int64{math.MaxInt64}),
		"a size of 3":              window(1, 1, []int64{1}, []int64{3}),
		"a size of 6":              window(1, 1, []int64{1, 2}, []int64{6, 1}),
		"a size of 2^20 - 1":       window(1, 1, []int64{1}, []int64{1<<20 - 1}),
		"a size of 2^20 + 1":       window(1, 1, []int64{1}, []int64{1<<20 + 1}),
		"a size of 2^21":           window(1, 1, []int64{1}, []int64{1 << 21}),
		"a size of 2^62":           window(1, 1, []int64{1}, []int64{1 << 62}),
		"rising sizes":             window(1, 1, []int64{1, 2}, []int64{1, 2}),
		"sizes that rise at last":  window(1, 1, []int64{1, 2, 3}, []int64{4, 1, 2}),
		"3 equal sizes":            window(1, 1, []int64{1, 2, 3}, []int64{1, 1, 1}),
		"3 equal sizes at first":   window(9, 1, []int64{1, 2, 3, 4}, []int64{4, 4, 4, 1}),
		"3 equal sizes at last":    window(9, 1, []int64{1, 2, 3, 4}, []int64{4, 1, 1, 1}),
		"3 equal sizes of 2^20":    window(9, 1, []int64{1, 2, 3}, repeated(int64(1<<20), 3)),
		"6 equal sizes of 4 parts": window(9, 4, upTo(6), repeated(int64(2), 6)),
		"18 equal sizes":           window(9, 16, upTo(18), repeated(int64(1), 18)),
		"128 equal sizes":          window(9, 16, upTo(128), repeated(int64(1), 128)),
		"129 sizes that fall":      fallenWindow(16, append([]int{10}, evenCounts(17, 7)...)...),
		"18 sizes in a full one":   fallenWindow(16, 8, 17, 17, 17, 17, 17, 17, 18),
	}
	for what, times := range notTimes() {
		sizes := repeated(int64(1), len(times))
		if len(times) == 129 {
			sizes = fallingSizes(append([]int{10}, evenCounts(17, 7)...)...)
		}
		invalid[what] = window(5, 16, times, sizes)
	}
	return invalid
}

// someWindows are valid, some of them at their limits.
func someWindows() []impl.Window {
	return []impl.Window{
		window(1, 1, nil, nil),
		window(impl.MaxTime, 16, []int64{}, nil),
		window(10, 1, []int64{2, 3}, []int64{2, 1}),
		window(1, 1, []int64{0}, []int64{1}),
		window(1, 1, []int64{5, 5}, []int64{1, 1}),
		window(impl.MaxTime, 1, []int64{0, impl.MaxTime}, []int64{1 << 20, 1 << 20}),
		window(impl.MaxTime, 16, repeated(int64(impl.MaxTime), 17), repeated(int64(1), 17)),
		window(3, 16, repeated(int64(0), 17), repeated(int64(1<<20), 17)),
		window(3, 4, []int64{1, 4, 4, 9, 9}, []int64{1 << 20, 64, 8, 8, 2}),
		fallenWindow(1, evenCounts(2, 21)...),
		fallenWindow(16, append([]int{9}, evenCounts(17, 7)...)...),
		fallenWindow(6, append([]int{2}, evenCounts(7, 18)...)...),
	}
}

func TestValidWindow(t *testing.T) {
	for _, w := range someWindows() {
		wantTrue(t, "ValidWindow "+shown(w), impl.ValidWindow(w))
	}
	for what, w := range invalidWindows() {
		wantFalse(t, "ValidWindow with "+what, impl.ValidWindow(w))
	}
}

func TestSameWindow(t *testing.T) {
	w := window(10, 1, []int64{2, 3}, []int64{2, 1})
	for _, other := range []impl.Window{
		window(9, 1, []int64{2, 3}, []int64{2, 1}), window(10, 2, []int64{2, 3}, []int64{2, 1}),
		window(10, 1, []int64{1, 3}, []int64{2, 1}), window(10, 1, []int64{2, 4}, []int64{2, 1}),
		window(10, 1, []int64{2, 3}, []int64{4, 1}), window(10, 1, []int64{2, 3}, []int64{2, 2}),
		window(10, 1, []int64{2}, []int64{2, 1}), window(10, 1, []int64{2, 3}, []int64{2}),
		window(10, 1, []int64{2, 3, 3}, []int64{2, 1}), window(10, 1, []int64{2, 3}, []int64{2, 1, 1}),
		window(10, 1, nil, nil), {},
	} {
		wantFalse(t, "SameWindow", impl.SameWindow(w, other) || impl.SameWindow(other, w))
	}
	wantTrue(t, "SameWindow", impl.SameWindow(w, window(10, 1, []int64{2, 3}, []int64{2, 1})))
	wantTrue(t, "SameWindow of nil and empty lists", impl.SameWindow(window(1, 1, nil, []int64{}), window(1, 1, []int64{}, nil)))
	for what, invalid := range invalidWindows() {
		wantTrue(t, "SameWindow of itself with "+what, impl.SameWindow(invalid, invalid))
	}
}

func TestNewWindow(t *testing.T) {
	for _, long := range []int64{1, 2, 1000, impl.MaxTime} {
		for _, parts := range []int64{1, 2, 16} {
			wantShown(t, "NewWindow", wrapped(impl.NewWindow(long, parts)), window(long, parts, nil, nil), true)
		}
	}
	for _, n := range wrongLongs {
		wantShown(t, "NewWindow with no long", wrapped(impl.NewWindow(n, 1)), impl.Window{}, false)
	}
	for _, n := range []int64{0, -1, 17, math.MinInt64, math.MaxInt64} {
		wantShown(t, "NewWindow with no parts", wrapped(impl.NewWindow(1, n)), impl.Window{}, false)
	}
}

func TestPutWindowTrue(t *testing.T) {
	rows := []struct {
		w            impl.Window
		time         int64
		times, sizes []int64
	}{
		{window(10, 1, nil, nil), 1, []int64{1}, []int64{1}},
		{window(10, 1, []int64{1}, []int64{1}), 2, []int64{1, 2}, []int64{1, 1}},
		{window(10, 1, []int64{1, 2}, []int64{1, 1}), 3, []int64{2, 3}, []int64{2, 1}},
		{window(10, 1, []int64{5}, []int64{1}), 5, []int64{5, 5}, []int64{1, 1}},
		{window(10, 1, []int64{5, 5}, []int64{1, 1}), 5, []int64{5, 5}, []int64{2, 1}},
		{window(1, 1, []int64{5, 5}, []int64{1, 1}), 5, []int64{5, 5}, []int64{2, 1}},
		{window(1, 1, []int64{5, 5}, []int64{1, 1}), 6, []int64{6}, []int64{1}},
		{window(10, 1, []int64{1, 2}, []int64{1, 1}), 10, []int64{2, 10}, []int64{2, 1}},
		{window(10, 1, []int64{1, 2}, []int64{1, 1}), 11, []int64{2, 11}, []int64{1, 1}},
		{window(10, 1, []int64{1, 2}, []int64{1, 1}), 12, []int64{12}, []int64{1}},
		{window(impl.MaxTime, 16, nil, nil), 0, []int64{0}, []int64{1}},
		{window(1, 1, nil, nil), 0, []int64{0}, []int64{1}},
		{window(1, 1, []int64{0}, []int64{1}), 0, []int64{0, 0}, []int64{1, 1}},
		{window(1, 1, nil, nil), impl.MaxTime, []int64{impl.MaxTime}, []int64{1}},
		{window(impl.MaxTime, 16, []int64{0, 0, 1}, []int64{1, 1, 1}), impl.MaxTime, []int64{1, impl.MaxTime}, []int64{1, 1}},
		{window(impl.MaxTime-1, 16, []int64{0, 1, 2}, []int64{1, 1, 1}), impl.MaxTime, []int64{2, impl.MaxTime}, []int64{1, 1}},
		{window(1, 2, []int64{impl.MaxTime}, []int64{4}), impl.MaxTime, []int64{impl.MaxTime, impl.MaxTime}, []int64{4, 1}},
		{window(100, 1, []int64{1, 2, 3, 4}, []int64{2, 2, 1, 1}), 5, []int64{2, 4, 5}, []int64{4, 2, 1}},
		{window(100, 1, []int64{1, 2, 3, 4}, []int64{2, 2, 1, 1}), 101, []int64{2, 4, 101}, []int64{2, 2, 1}},
		{window(100, 1, []int64{1, 2, 3, 4}, []int64{2, 2, 1, 1}), 103, []int64{4, 103}, []int64{1, 1}},
		{window(100, 2, []int64{1, 2, 3, 4, 5, 6}, []int64{2, 2, 2, 1, 1, 1}), 7, []int64{2, 3, 5, 6, 7}, []int64{4, 2, 2, 1, 1}},
		{window(100, 2, []int64{1, 2, 3, 4, 5}, []int64{2, 2, 1, 1, 1}), 7, []int64{1, 2, 4, 5, 7}, []int64{2, 2, 2, 1, 1}},
		{window(100, 3, []int64{1, 1, 1, 7, 7, 7, 7}, []int64{8, 4, 4, 1, 1, 1, 1}), 7, []int64{1, 1, 1, 7, 7, 7, 7}, []int64{8, 4, 4, 2, 1, 1, 1}},
		{window(100, 1, []int64{1, 2, 3, 4, 5, 6}, []int64{8, 4, 4, 2, 2, 1}), 7, []int64{1, 2, 3, 4, 5, 6, 7}, []int64{8, 4, 4, 2, 2, 1, 1}},
		{window(100, 1, []int64{1, 2, 3, 4, 5, 6, 7}, []int64{16, 4, 4, 2, 2, 1, 1}), 8, []int64{1, 3, 5, 7, 8}, []int64{16, 8, 4, 2, 1}},
		{window(9, 16, repeated(int64(3), 17), repeated(int64(1), 17)), 4, append(repeated(int64(3), 16), 4), append([]int64{2}, repeated(int64(1), 16)...)},
	}
	for _, row := range rows {
		want := window(row.w.Long, row.w.Parts, row.times, row.sizes)
		wantShown(t, "PutWindow of a true bit at "+shown(row.time), wrapped(impl.PutWindow(row.w, row.time, true)), want, true)
	}
}

func TestPutWindowFalse(t *testing.T) {
	rows := []struct {
		w            impl.Window
		time         int64
		times, sizes []int64
	}{
		{window(10, 1, nil, nil), 0, nil, nil},
		{window(10, 1, nil, nil), impl.MaxTime, nil, nil},
		{window(1, 1, []int64{5, 5}, []int64{1, 1}), 5, []int64{5, 5}, []int64{1, 1}},
		{window(1, 1, []int64{5, 5}, []int64{1, 1}), 6, nil, nil},
		{window(10, 1, []int64{1, 2}, []int64{1, 1}), 10, []int64{1, 2}, []int64{1, 1}},
		{window(10, 1, []int64{1, 2}, []int64{1, 1}), 11, []int64{2}, []int64{1}},
		{window(10, 1, []int64{1, 2}, []int64{1, 1}), 12, nil, nil},
		{window(10, 1, []int64{2, 3}, []int64{2, 1}), 12, []int64{3}, []int64{1}},
		{window(impl.MaxTime, 2, []int64{0, 0, 1}, []int64{8, 8, 8}), impl.MaxTime, []int64{1}, []int64{8}},
		{window(impl.MaxTime, 2, []int64{1, impl.MaxTime}, []int64{8, 8}), impl.MaxTime, []int64{1, impl.MaxTime}, []int64{8, 8}},
		{fallenWindow(1, evenCounts(2, 21)...), 41, upTo(42), fallingSizes(evenCounts(2, 21)...)},
	}
	for _, row := range rows {
		want := window(row.w.Long, row.w.Parts, row.times, row.sizes)
		wantShown(t, "PutWindow of a false bit at "+shown(row.time), wrapped(impl.PutWindow(row.w, row.time, false)), want, true)
	}
}

func TestPutWindowWithInvalidOnes(t *testing.T) {
	w := window(10, 1, []int64{2, 3}, []int64{2, 1})
	for _, bit := range []bool{true, false} {
		for what, invalid := range invalidWindows() {
			for _, time := range []int64{0, 1, 200, impl.MaxTime} {
				wantShown(t, "PutWindow with "+what, wrapped(impl.PutWindow(invalid, time, bit)), impl.Window{}, false)
			}
		}
		for _, time := range append([]int64{0, 1, 2}, wrongTimes...) {
			wantShown(t, "PutWindow at a wrong time", wrapped(impl.PutWindow(w, time, bit)), impl.Window{}, false)
		}
		for _, time := range wrongTimes {
			wantShown(t, "PutWindow at no time", wrapped(impl.PutWindow(window(1, 1, nil, nil), time, bit)), impl.Window{}, false)
		}
		late := window(1, 1, []int64{impl.MaxTime}, []int64{1})
		wantShown(t, "PutWindow before the last time", wrapped(impl.PutWindow(late, impl.MaxTime-1, bit)), impl.Window{}, false)
	}
}

// wantFallen checks what a true bit makes of the sizes of a window at the times 0, 1 and so on.
func wantFallen(t *testing.T, what string, w impl.Window, time int64, counts ...int) {
	t.Helper()
	got, ok := impl.PutWindow(w, time, true)
	wantTrue(t, what, ok && len(got.Times) == len(got.Sizes) && got.Times[len(got.Times)-1] == time)
	wantShown(t, what, shown(got.Sizes), fallingSizes(counts...))
}

func TestPutWindowAtTheGreatestSize(t *testing.T) {
	full := fallenWindow(1, evenCounts(2, 21)...)
	for _, time := range []int64{41, 42, 999} {
		wantShown(t, "a size of 2^21", wrapped(impl.PutWindow(full, time, true)), impl.Window{}, false)
	}
	wantFallen(t, "the first one is left out", full, 1000, append([]int{2}, evenCounts(1, 20)...)...)
	wantFallen(t, "the first two are left out", full, 1001, evenCounts(1, 21)...)
	wantFallen(t, "two of 2^20", fallenWindow(1, append([]int{1}, evenCounts(2, 20)...)...), 41, append([]int{2}, evenCounts(1, 20)...)...)
	wantFallen(t, "no more than two of 2^19", fallenWindow(1, append([]int{2, 1}, evenCounts(2, 19)...)...), 41, append([]int{2, 2}, evenCounts(1, 19)...)...)
	wide := window(1000, 16, upTo(34), append(repeated(int64(1<<20), 17), repeated(int64(1), 17)...))
	got, ok := impl.PutWindow(wide, 50, true)
	want := window(1000, 16, append(upTo(34)[:17:17], append(upTo(34)[18:34], 50)...), append(repeated(int64(1<<20), 17), append([]int64{2}, repeated(int64(1), 16)...)...))
	wantShown(t, "17 of 2^20", shown(got, ok), want, true)
}

func TestPutWindowAtTheGreatestNumberOfTimes(t *testing.T) {
	full := fallenWindow(16, 10, 17, 17, 17, 17, 17, 17, 16)
	wantShown(t, "a 129th time", wrapped(impl.PutWindow(full, 127, true)), impl.Window{}, false)
	wantShown(t, "a 129th time", wrapped(impl.PutWindow(full, 999, true)), impl.Window{}, false)
	wantShown(t, "a false bit", wrapped(impl.PutWindow(full, 999, false)), full, true)
	wantFallen(t, "the first one is left out", full, 1000, 9, 17, 17, 17, 17, 17, 17, 17)
	wantFallen(t, "the 128th time", fallenWindow(16, 9, 17, 17, 17, 17, 17, 17, 16), 127, 9, 17, 17, 17, 17, 17, 17, 17)
	wantFallen(t, "as many as before", fallenWindow(16, 10, 17, 17, 17, 17, 17, 16, 17), 127, 10, 17, 17, 17, 17, 17, 17, 16)
	wantFallen(t, "fewer than before", fallenWindow(16, 9, 17, 17, 17, 17, 17, 17, 17), 127, 10, 16, 16, 16, 16, 16, 16, 16)
}

func TestCountAndBoundsOfWindow(t *testing.T) {
	some := window(100, 2, []int64{1, 2, 3, 4, 5, 6}, []int64{4, 4, 2, 1, 1, 1})
	rows := []struct {
		w                impl.Window
		time             int64
		count, low, high int64
	}{
		{window(10, 1, nil, nil), 0, 0, 0, 0},
		{window(10, 1, nil, nil), impl.MaxTime, 0, 0, 0},
		{window(10, 1, []int64{1}, []int64{1}), 1, 1, 1, 1},
		{window(10, 1, []int64{1}, []int64{1}), 10, 1, 1, 1},
		{window(10, 1, []int64{1}, []int64{1}), 11, 0, 0, 0},
		{window(10, 1, []int64{2, 3}, []int64{2, 1}), 3, 2, 2, 3},
		{window(10, 1, []int64{2, 3}, []int64{2, 1}), 11, 2, 2, 3},
		{window(10, 1, []int64{2, 3}, []int64{2, 1}), 12, 1, 1, 1},
		{window(10, 1, []int64{2, 3}, []int64{2, 1}), 13, 0, 0, 0},
		{window(1, 1, []int64{5, 5}, []int64{2, 1}), 5, 2, 2, 3},
		{window(1, 1, []int64{5, 5}, []int64{2, 1}), 6, 0, 0, 0},
		{some, 6, 11, 10, 13},
		{some, 101, 7, 6, 9},
		{some, 102, 4, 4, 5},
		{some, 103, 3, 3, 3},
		{some, 105, 1, 1, 1},
		{some, impl.MaxTime, 0, 0, 0},
		{window(impl.MaxTime, 1, []int64{0}, []int64{1 << 20}), 0, 1 << 19, 1, 1 << 20},
		{window(impl.MaxTime, 1, []int64{0, 1}, []int64{8, 4}), impl.MaxTime, 2, 1, 4},
		{window(3, 16, repeated(int64(0), 17), repeated(int64(1<<20), 17)), 2, 33 << 19, 1<<24 + 1, 17 << 20},
		{fallenWindow(1, evenCounts(2, 21)...), 41, 3670014, 3145727, 4194302},
		{fallenWindow(16, 10, 17, 17, 17, 17, 17, 17, 16), 127, 3374, 3311, 3438},
	}
	for _, row := range rows {
		wantShown(t, "CountWindow", wrapped(impl.CountWindow(row.w, row.time)), row.count, true)
		low, high, ok := impl.BoundsOfWindow(row.w, row.time)
		wantShown(t, "BoundsOfWindow", shown(low, high, ok), row.low, row.high, true)
	}
}

func TestCountAndBoundsOfInvalidWindows(t *testing.T) {
	wantNone := func(what string, w impl.Window, time int64) {
		wantShown(t, "CountWindow "+what, wrapped(impl.CountWindow(w, time)), 0, false)
		low, high, ok := impl.BoundsOfWindow(w, time)
		wantShown(t, "BoundsOfWindow "+what, shown(low, high, ok), 0, 0, false)
	}
	for what, w := range invalidWindows() {
		wantNone("with "+what, w, 200)
		wantNone("late with "+what, w, impl.MaxTime)
	}
	for _, time := range append([]int64{0, 1, 2}, wrongTimes...) {
		wantNone("at a wrong time", window(10, 1, []int64{2, 3}, []int64{2, 1}), time)
	}
	for _, time := range wrongTimes {
		wantNone("without times at no time", window(10, 1, nil, nil), time)
	}
}

func TestSeriesOfWindows(t *testing.T) {
	rows := []struct {
		long, parts, n, step, mod int64
		want                      string
	}{
		{1, 1, 100, 1, 3, shown(2, 72, 4, 141, 141, 161)},
		{10, 1, 300, 2, 3, shown(6, 3093, 41, 3580, 2929, 4527)},
		{100, 2, 1000, 1, 2, shown(17, 36844, 750, 135438, 115992, 155876)},
		{1000, 16, 3000, 3, 5, shown(98, 10443553, 23566, 2296085, 2258531, 2336616)},
		{1000000, 1, 3000, 4, 4, shown(17, 448265, 4887, 2657277, 2102195, 3215354)},
		{1000000, 16, 3000, 1, 7, shown(119, 4977280, 59556, 3776361, 3694288, 3861416)},
		{37, 7, 2000, 9, 2, shown(7, 125572, 28, 14513, 14513, 14513)},
	}
	for _, row := range rows {
		w, sums := window(row.long, row.parts, nil, nil), [3]int64{}
		for i := range row.n {
			time := i * row.step / 4
			next, ok := impl.PutWindow(w, time, (i*i+i/7)%row.mod != 0)
			wantTrue(t, "PutWindow", ok)
			w = next
			count, _ := impl.CountWindow(w, time)
			low, high, _ := impl.BoundsOfWindow(w, time)
			sums = [3]int64{sums[0] + count, sums[1] + low, sums[2] + high}
		}
		wantSame(t, "a series", shown(len(w.Times), weighed(w.Times), weighed(w.Sizes), sums[0], sums[1], sums[2]), row.want)
	}
}

func TestCountExactly(t *testing.T) {
	three, mixed := repeated(true, 3), []bool{true, true, false, true}
	rows := []struct {
		times      []int64
		bits       []bool
		time, long int64
		want       int64
	}{
		{[]int64{1, 2, 3}, []bool{true, false, true}, 3, 2, 1},
		{[]int64{1, 2, 3}, []bool{true, false, true}, 3, 3, 2},
		{[]int64{1, 2, 3}, []bool{true, false, true}, 2, 2, 1},
		{[]int64{5, 5, 5, 5}, mixed, 5, 1, 3},
		{[]int64{5, 5, 5, 5}, mixed, 6, 1, 0},
		{[]int64{5, 5, 5, 5}, mixed, 6, 2, 3},
		{[]int64{5, 5, 5, 5}, mixed, 4, impl.MaxTime, 0},
		{[]int64{0, 0, impl.MaxTime}, three, impl.MaxTime, impl.MaxTime, 1},
		{[]int64{0, 1, impl.MaxTime}, three, impl.MaxTime, impl.MaxTime, 2},
		{[]int64{0, 1, impl.MaxTime}, three, 0, impl.MaxTime, 1},
		{[]int64{0, 0, 1}, three, 0, 1, 2},
		{[]int64{0}, []bool{true}, 0, 1, 1},
		{[]int64{0}, []bool{false}, 0, 1, 0},
		{[]int64{0}, []bool{true}, 1, 1, 0},
		{[]int64{0}, []bool{true}, 1, 2, 1},
		{[]int64{impl.MaxTime}, []bool{true}, impl.MaxTime, 1, 1},
		{[]int64{impl.MaxTime}, []bool{true}, impl.MaxTime - 1, impl.MaxTime, 0},
		{upTo(128), repeated(true, 128), 127, 128, 128},
		{upTo(128), repeated(true, 128), 127, 127, 127},
		{upTo(128), repeated(true, 128), 200, 100, 27},
		{upTo(128), repeated(true, 128), 63, impl.MaxTime, 64},
		{repeated(int64(0), 128), repeated(true, 128), 0, 1, 128},
	}
	for _, row := range rows {
		wantShown(t, "CountExactly", wrapped(impl.CountExactly(row.times, row.bits, row.time, row.long)), row.want, true)
	}
}

func TestCountExactlyWithInvalidOnes(t *testing.T) {
	none := shown(0, false)
	for what, times := range notTimes() {
		wantSame(t, "CountExactly with "+what, wrapped(impl.CountExactly(times, repeated(true, len(times)), 5, 5)), none)
	}
	some := []int64{1, 2, 3}
	for _, n := range []int{0, 1, 2, 4, 128, 5000} {
		wantSame(t, "CountExactly with another number of bits", wrapped(impl.CountExactly(some, repeated(true, n), 5, 5)), none)
	}
	wantSame(t, "CountExactly of nothing", wrapped(impl.CountExactly(nil, nil, 5, 5)), none)
	wantSame(t, "CountExactly of nothing", wrapped(impl.CountExactly([]int64{}, []bool{}, 5, 5)), none)
	wantSame(t, "CountExactly without times", wrapped(impl.CountExactly(nil, []bool{true}, 5, 5)), none)
	for _, time := range wrongTimes {
		wantSame(t, "CountExactly at no time", wrapped(impl.CountExactly(some, repeated(true, 3), time, 5)), none)
	}
	for _, long := range wrongLongs {
		wantSame(t, "CountExactly with no long", wrapped(impl.CountExactly(some, repeated(true, 3), 5, long)), none)
	}
}
