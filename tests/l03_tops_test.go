package tests

import (
	"math"
	"testing"

	"loop.example/g01347/impl"
)

// tops are the tops with these keys, made without the program.
func tops(room int64, keys, counts, errors []int64) impl.Tops {
	return impl.Tops{Room: room, Keys: keys, Counts: counts, Errors: errors}
}

// oneTop are full tops of one key.
func oneTop(key, count, err int64) impl.Tops {
	return tops(1, []int64{key}, []int64{count}, []int64{err})
}

// invalidTops pass each limit of tops by one, and far.
func invalidTops() map[string]impl.Tops {
	one, two, none := []int64{1}, []int64{1, 2}, []int64{0, 0}
	return map[string]impl.Tops{
		"the zero struct":      {},
		"no room":              tops(0, nil, nil, nil),
		"a room of 33":         tops(33, one, one, none[:1]),
		"a room below":         tops(-1, nil, nil, nil),
		"the least room":       tops(math.MinInt64, one, one, none[:1]),
		"keys above the room":  tops(1, two, two, none),
		"33 keys":              tops(32, upTo(33), repeated(int64(5), 33), repeated(int64(0), 33)),
		"equal keys":           tops(3, []int64{7, 8, 7}, []int64{1, 1, 1}, []int64{0, 0, 0}),
		"a key below":          oneTop(-1, 1, 0),
		"a key above":          oneTop(greatestKey+1, 1, 0),
		"nil counts":           tops(2, two, nil, none),
		"nil errors":           tops(2, two, two, nil),
		"nil keys":             tops(2, nil, two, none),
		"a count too few":      tops(2, two, one, none),
		"a count too many":     tops(2, two, []int64{1, 2, 3}, none),
		"an error too few":     tops(2, two, two, none[:1]),
		"an error too many":    tops(2, two, two, []int64{0, 0, 0}),
		"counts without keys":  tops(2, nil, one, none[:1]),
		"a count of zero":      oneTop(7, 0, 0),
		"a count below":        oneTop(7, -1, -2),
		"a count above":        oneTop(7, impl.MaxCell+1, 0),
		"the greatest count":   tops(2, two, []int64{1, math.MaxInt64}, none),
		"an error below":       oneTop(7, 5, -1),
		"an error as a count":  oneTop(7, 5, 5),
		"a last error as such": tops(2, two, two, []int64{0, 2}),
		"the greatest error":   oneTop(7, 5, math.MaxInt64),
	}
}

func TestValidTops(t *testing.T) {
	valid := []impl.Tops{tops(1, nil, nil, nil), tops(32, []int64{}, nil, []int64{}), oneTop(0, 1, 0), oneTop(greatestKey, impl.MaxCell, impl.MaxCell-1), tops(32, upTo(32), repeated(int64(impl.MaxCell), 32), upTo(32)), tops(3, []int64{9, 4}, []int64{1, 2}, []int64{0, 1})}
	for _, top := range valid {
		wantTrue(t, "ValidTops "+shown(top), impl.ValidTops(top))
	}
	for what, top := range invalidTops() {
		wantFalse(t, "ValidTops with "+what, impl.ValidTops(top))
	}
}

func TestSameTops(t *testing.T) {
	a := tops(3, []int64{9, 4}, []int64{5, 2}, []int64{0, 1})
	for _, top := range []impl.Tops{a, {}, oneTop(-1, 0, 7), tops(40, nil, []int64{1}, nil)} {
		copied := func(list []int64) []int64 { return append([]int64{}, list...) }
		wantTrue(t, "equal ones", impl.SameTops(top, tops(top.Room, copied(top.Keys), copied(top.Counts), copied(top.Errors))))
	}
	others := []impl.Tops{{}, tops(2, a.Keys, a.Counts, a.Errors), tops(3, []int64{4, 9}, a.Counts, a.Errors), tops(3, []int64{9}, a.Counts, a.Errors), tops(3, a.Keys, []int64{5, 3}, a.Errors), tops(3, a.Keys, []int64{5, 2, 0}, a.Errors), tops(3, a.Keys, a.Counts, []int64{0, 0}), tops(3, a.Keys, a.Counts, nil), tops(3, a.Keys, a.Errors, a.Counts)}
	for _, b := range others {
		wantFalse(t, "SameTops of "+shown(b), impl.SameTops(a, b) || impl.SameTops(b, a))
	}
}

func TestTopsOf(t *testing.T) {
	rows := []struct {
		room       int64
		list, want [][]int64
	}{
		{1, [][]int64{{5, 6}}, [][]int64{{6}, {2}, {1}}},
		{1, [][]int64{{5, 5, 6, 5}}, [][]int64{{5}, {4}, {3}}},
		{3, [][]int64{{1, 2, 3, 4, 5, 1}}, [][]int64{{4, 5, 1}, {2, 2, 2}, {1, 1, 1}}},
		{2, [][]int64{{9, 9, 8, 8, 7}}, [][]int64{{7, 8}, {3, 2}, {2, 0}}},
		{2, [][]int64{{8, 9, 9, 7, 8}}, [][]int64{{8, 9}, {3, 2}, {2, 0}}},
		{3, [][]int64{{4, 4, 8}}, [][]int64{{4, 8}, {2, 1}, {0, 0}}},
		{4, [][]int64{{0, greatestKey, 0, 7, 7, 7, 1, 2, 0}}, [][]int64{{0, 2, 7, 1}, {3, 2, 3, 1}, {0, 1, 0, 0}}},
		{32, [][]int64{upTo(32)}, [][]int64{upTo(32), repeated(int64(1), 32), repeated(int64(0), 32)}},
		{32, [][]int64{append(upTo(32), 99)}, [][]int64{append([]int64{99}, upTo(32)[1:]...), append([]int64{2}, repeated(int64(1), 31)...), append([]int64{1}, repeated(int64(0), 31)...)}},
		{1, [][]int64{repeated(int64(3), 256)}, [][]int64{{3}, {256}, {0}}},
		{1, [][]int64{upTo(256)}, [][]int64{{255}, {256}, {255}}},
		{3, [][]int64{nil}, [][]int64{nil, nil, nil}},
		{1, [][]int64{{}}, [][]int64{nil, nil, nil}},
	}
	for _, row := range rows {
		wantShown(t, "TopsOf", wrapped(impl.TopsOf(row.room, row.list[0])), tops(row.room, row.want[0], row.want[1], row.want[2]), true)
	}
	for _, room := range []int64{0, -1, 33, math.MaxInt64, math.MinInt64} {
		wantShown(t, "TopsOf with the room "+impl.Decimal(room), wrapped(impl.TopsOf(room, []int64{1})), impl.Tops{}, false)
	}
	for _, list := range [][]int64{{-1}, {1, greatestKey + 1}, upTo(257)} {
		wantShown(t, "TopsOf no keys", wrapped(impl.TopsOf(3, list)), impl.Tops{}, false)
	}
}

func TestSeriesOfTops(t *testing.T) {
	series := func(room, part int64) string {
		keys := make([]int64, 256)
		for i := range int64(256) {
			keys[i] = i * i * i % part
		}
		return wrapped(impl.TopsOf(room, keys))
	}
	wantShown(t, "five tops", series(5, 101), tops(5, []int64{3, 85, 63, 38, 16}, []int64{52, 51, 51, 51, 51}, []int64{51, 50, 50, 50, 50}), true)
	last := []int64{43, 47, 88, 71, 2, 89, 35, 48, 33, 97, 44, 82, 15, 51, 95, 52, 29, 32, 67, 39, 55, 20, 41, 23, 73, 96, 98, 85, 63, 38, 16, 3}
	wantShown(t, "32 tops", series(32, 101), tops(32, last, repeated(int64(8), 32), repeated(int64(7), 32)), true)
}

func TestPutTop(t *testing.T) {
	three := tops(3, []int64{9, 4}, []int64{5, 2}, []int64{0, 1})
	wantShown(t, "a key that is there", wrapped(impl.PutTop(three, 4)), tops(3, []int64{9, 4}, []int64{5, 3}, []int64{0, 1}), true)
	wantShown(t, "another key", wrapped(impl.PutTop(three, 0)), tops(3, []int64{9, 4, 0}, []int64{5, 2, 1}, []int64{0, 1, 0}), true)
	full := tops(3, []int64{9, 4, 6}, []int64{5, 2, 2}, []int64{0, 1, 0})
	wantShown(t, "the first one of the least counts", wrapped(impl.PutTop(full, greatestKey)), tops(3, []int64{9, greatestKey, 6}, []int64{5, 3, 2}, []int64{0, 2, 0}), true)
	wantShown(t, "a key that is there in full ones", wrapped(impl.PutTop(full, 9)), tops(3, []int64{9, 4, 6}, []int64{6, 2, 2}, []int64{0, 1, 0}), true)
	wantShown(t, "one top", wrapped(impl.PutTop(oneTop(5, 1, 0), 6)), oneTop(6, 2, 1), true)
	wantShown(t, "the same top", wrapped(impl.PutTop(oneTop(6, 2, 1), 6)), oneTop(6, 3, 1), true)
	wantShown(t, "the first top", wrapped(impl.PutTop(tops(1, nil, nil, nil), 6)), oneTop(6, 1, 0), true)
	for _, key := range []int64{-1, greatestKey + 1, math.MaxInt64, math.MinInt64} {
		wantShown(t, "PutTop no key", wrapped(impl.PutTop(three, key)), impl.Tops{}, false)
	}
}

func TestPutTopAtLimits(t *testing.T) {
	wantShown(t, "up to the limit", wrapped(impl.PutTop(oneTop(6, impl.MaxCell-1, 4), 6)), oneTop(6, impl.MaxCell, 4), true)
	wantShown(t, "above the limit", wrapped(impl.PutTop(oneTop(6, impl.MaxCell, 4), 6)), impl.Tops{}, false)
	wantShown(t, "another key up to the limit", wrapped(impl.PutTop(oneTop(6, impl.MaxCell-1, 4), 7)), oneTop(7, impl.MaxCell, impl.MaxCell-1), true)
	wantShown(t, "another key above the limit", wrapped(impl.PutTop(oneTop(6, impl.MaxCell, 4), 7)), impl.Tops{}, false)
	mixed := tops(2, []int64{1, 2}, []int64{impl.MaxCell, 3}, []int64{0, 0})
	wantShown(t, "another key beside the limit", wrapped(impl.PutTop(mixed, 7)), tops(2, []int64{1, 7}, []int64{impl.MaxCell, 4}, []int64{0, 3}), true)
	wantShown(t, "the key at the limit", wrapped(impl.PutTop(mixed, 1)), impl.Tops{}, false)
}

func TestTopBounds(t *testing.T) {
	full := tops(3, []int64{9, 4, 0}, []int64{5, 3, 7}, []int64{0, 2, 6})
	part := tops(4, full.Keys, full.Counts, full.Errors)
	bounds := func(top impl.Tops, key int64) string {
		low, high, ok := impl.TopBounds(top, key)
		return shown(low, high, ok)
	}
	for _, top := range []impl.Tops{full, part} {
		wantShown(t, "the first key", bounds(top, 9), 5, 5, true)
		wantShown(t, "the second key", bounds(top, 4), 1, 3, true)
		wantShown(t, "the last key", bounds(top, 0), 1, 7, true)
	}
	wantShown(t, "another key of full ones", bounds(full, 8), 0, 3, true)
	wantShown(t, "another key with room", bounds(part, 8), 0, 0, true)
	wantShown(t, "empty ones", bounds(tops(1, nil, nil, nil), 0), 0, 0, true)
	wantShown(t, "another key of one top", bounds(oneTop(6, 3, 1), greatestKey), 0, 3, true)
	wantShown(t, "the key of one top", bounds(oneTop(6, impl.MaxCell, impl.MaxCell-1), 6), 1, impl.MaxCell, true)
	for _, key := range []int64{-1, greatestKey + 1, math.MaxInt64, math.MinInt64} {
		wantShown(t, "no key", bounds(full, key), 0, 0, false)
	}
}

func TestHeavyTops(t *testing.T) {
	top := tops(5, []int64{9, 4, 0, greatestKey, 7}, []int64{5, 3, 7, 9, 2}, []int64{0, 2, 3, 6, 0})
	rows := []struct {
		least int64
		want  []int64
	}{{math.MinInt64, []int64{0, 4, 7, 9, greatestKey}}, {0, []int64{0, 4, 7, 9, greatestKey}}, {1, []int64{0, 4, 7, 9, greatestKey}}, {2, []int64{0, 7, 9, greatestKey}}, {3, []int64{0, 9, greatestKey}}, {4, []int64{0, 9}}, {5, []int64{9}}, {6, nil}, {math.MaxInt64, nil}}
	for _, row := range rows {
		wantShown(t, "HeavyTops of at least "+impl.Decimal(row.least), wrapped(impl.HeavyTops(top, row.least)), row.want, true)
	}
	wantShown(t, "HeavyTops of none", wrapped(impl.HeavyTops(tops(1, nil, nil, nil), 0)), []int64{}, true)
	wantShown(t, "HeavyTops of one at the limit", wrapped(impl.HeavyTops(oneTop(6, impl.MaxCell, 0), impl.MaxCell)), []int64{6}, true)
}

func TestMergeTops(t *testing.T) {
	rows := []struct {
		room int64
		a, b []int64
		want impl.Tops
	}{
		{3, []int64{4, 4, 8}, []int64{4, 9}, tops(3, []int64{4, 8, 9}, []int64{3, 1, 1}, []int64{0, 0, 0})},
		{1, []int64{5, 6}, []int64{6, 6, 6}, oneTop(6, 5, 1)},
		{1, []int64{5}, nil, oneTop(5, 1, 0)},
		{1, nil, []int64{5}, oneTop(5, 1, 0)},
		{1, nil, nil, tops(1, nil, nil, nil)},
		{1, []int64{5}, []int64{6}, oneTop(5, 2, 1)},
		{2, []int64{1, 2}, []int64{3, 4}, tops(2, []int64{1, 2}, []int64{2, 2}, []int64{1, 1})},
		{2, []int64{1, 2, 2}, []int64{3, 4, 4}, tops(2, []int64{2, 4}, []int64{3, 3}, []int64{1, 1})},
		{3, []int64{1, 2, 2}, []int64{3, 2, 4}, tops(3, []int64{2, 1, 3}, []int64{3, 2, 1}, []int64{0, 1, 0})},
		{2, []int64{1}, []int64{2, 3, 3}, tops(2, []int64{1, 3}, []int64{2, 2}, []int64{1, 0})},
		{4, []int64{7, 8, 9}, []int64{9, 8, 7, 6, 6, 6}, tops(4, []int64{6, 7, 8, 9}, []int64{3, 2, 2, 2}, []int64{0, 0, 0, 0})},
		{3, []int64{1, 2, 3, 4, 5, 1}, []int64{5, 5, 9, 1, 2}, tops(3, []int64{5, 2, 4}, []int64{4, 4, 3}, []int64{1, 3, 2})},
		{32, upTo(32), upTo(64)[32:], tops(32, upTo(32), repeated(int64(2), 32), repeated(int64(1), 32))},
		{32, upTo(16), append(upTo(64)[48:], 15), tops(32, append([]int64{15}, append(upTo(15), upTo(64)[48:]...)...), append([]int64{2}, repeated(int64(1), 31)...), repeated(int64(0), 32))},
	}
	for _, row := range rows {
		a, one := impl.TopsOf(row.room, row.a)
		b, two := impl.TopsOf(row.room, row.b)
		wantTrue(t, "TopsOf", one && two)
		wantShown(t, "MergeTops", wrapped(impl.MergeTops(a, b)), row.want, true)
		wider, _ := impl.TopsOf(row.room%impl.MaxTops+1, row.b)
		wantShown(t, "MergeTops of other rooms", wrapped(impl.MergeTops(a, wider)), impl.Tops{}, false)
	}
}

func TestMergeTopsAtLimits(t *testing.T) {
	most := tops(2, []int64{1}, []int64{impl.MaxCell - 1}, []int64{0})
	wantShown(t, "up to the limit", wrapped(impl.MergeTops(most, tops(2, []int64{1, 2}, []int64{1, 1}, []int64{0, 0}))), tops(2, []int64{1, 2}, []int64{impl.MaxCell, 1}, []int64{0, 0}), true)
	wantShown(t, "above the limit", wrapped(impl.MergeTops(most, tops(2, []int64{1, 2}, []int64{2, 1}, []int64{0, 0}))), impl.Tops{}, false)
	wantShown(t, "above the limit by full ones", wrapped(impl.MergeTops(most, tops(2, []int64{3, 2}, []int64{2, 2}, []int64{0, 0}))), impl.Tops{}, false)
	wantShown(t, "beside ones with room", wrapped(impl.MergeTops(tops(2, []int64{1}, []int64{impl.MaxCell}, []int64{impl.MaxCell - 1}), tops(2, []int64{2}, []int64{4}, []int64{0}))), tops(2, []int64{1, 2}, []int64{impl.MaxCell, 4}, []int64{impl.MaxCell - 1, 0}), true)
}

func TestSeriesOfMergedTops(t *testing.T) {
	squares, cubes := make([]int64, 256), make([]int64, 256)
	for i := range int64(256) {
		squares[i], cubes[i] = i*i%47, i*i*i%101
	}
	a, _ := impl.TopsOf(32, squares)
	b, _ := impl.TopsOf(32, cubes)
	counts := append(append(repeated(int64(19), 20), 18, 18, 18, 14), repeated(int64(8), 8)...)
	keys := []int64{1, 4, 9, 16, 25, 36, 2, 17, 34, 6, 27, 3, 28, 8, 37, 21, 7, 42, 32, 24, 18, 14, 12, 0, 43, 47, 88, 71, 89, 35, 48, 33}
	errors := []int64{8, 8, 8, 7, 8, 8, 7, 8, 8, 8, 8, 7, 8, 8, 8, 8, 8, 8, 7, 8, 8, 8, 8, 8, 7, 7, 7, 7, 7, 7, 7, 7}
	wantShown(t, "MergeTops", wrapped(impl.MergeTops(a, b)), tops(32, keys, counts, errors), true)
	keys = []int64{2, 32, 16, 3, 1, 4, 9, 25, 36, 17, 34, 6, 27, 28, 8, 37, 21, 7, 42, 24, 18, 14, 12, 0, 43, 47, 88, 71, 89, 35, 48, 33}
	errors = append(append(repeated(int64(7), 4), repeated(int64(8), 20)...), repeated(int64(7), 8)...)
	wantShown(t, "MergeTops in the other order", wrapped(impl.MergeTops(b, a)), tops(32, keys, counts, errors), true)
}

func TestExactCounts(t *testing.T) {
	exact := func(keys []int64) string {
		found, counts, ok := impl.ExactCounts(keys)
		return shown(found, counts, ok)
	}
	wantShown(t, "three keys", exact([]int64{7, 7, 9}), []int64{7, 9}, []int64{2, 1}, true)
	wantShown(t, "falling keys", exact([]int64{greatestKey, 9, 0, 9, greatestKey, 3, 9}), []int64{0, 3, 9, greatestKey}, []int64{1, 1, 3, 2}, true)
	wantShown(t, "one key", exact([]int64{0}), []int64{0}, []int64{1}, true)
	wantShown(t, "256 equal keys", exact(repeated(int64(greatestKey), 256)), []int64{greatestKey}, []int64{256}, true)
	wantShown(t, "256 different keys", exact(upTo(256)), upTo(256), repeated(int64(1), 256), true)
	wantShown(t, "no keys", exact([]int64{}), []int64{}, []int64{}, true)
	wantShown(t, "nil", exact(nil), []int64{}, []int64{}, true)
	for _, keys := range [][]int64{{-1}, {3, greatestKey + 1}, upTo(257), {math.MinInt64}} {
		wantShown(t, "no list of keys", exact(keys), []int64{}, []int64{}, false)
	}
}
