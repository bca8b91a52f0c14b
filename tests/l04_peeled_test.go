package tests

import (
	"math"
	"slices"
	"testing"

	"loop.example/g01347/impl"
)

// wrongSizes are no sizes of peeled cells.
var wrongSizes = []int64{0, -1, 129, math.MaxInt64, math.MinInt64, math.MaxInt64/3 + 1}

// notPeeled are cells that are not peeled ones.
func notPeeled() map[string][]int64 {
	return map[string][]int64{
		"nil cells":        nil,
		"no cells":         {},
		"one cell":         {0},
		"two cells":        {0, 0},
		"four cells":       make([]int64, 4),
		"383 cells":        make([]int64, 383),
		"385 cells":        make([]int64, 385),
		"387 cells":        make([]int64, 387),
		"a first cell":     {-1, 0, 0},
		"a last cell":      {0, 0, 256},
		"the least number": {0, math.MinInt64, 0},
		"the most number":  {0, math.MaxInt64, 0},
		"a cell elsewhere": append(make([]int64, 383), 256),
	}
}

func TestPeelCells(t *testing.T) {
	twelve := []int64{}
	for i := range int64(12) {
		twelve = append(twelve, seriesKey(i))
	}
	rows := []struct {
		keys       []int64
		size, salt int64
		want       []int64
	}{
		{nil, 1, 3, make([]int64, 3)},
		{[]int64{}, 2, greatestKey, make([]int64, 6)},
		{nil, 128, 0, make([]int64, 384)},
		{[]int64{4}, 1, 3, []int64{161, 0, 0}},
		{[]int64{0}, 1, greatestKey, []int64{231, 0, 0}},
		{[]int64{226}, 1, 3, []int64{1, 0, 0}},
		{[]int64{227}, 1, 3, []int64{255, 0, 0}},
		{[]int64{greatestKey}, 3, greatestKey - 2, []int64{0, 116, 0, 0, 0, 0, 0, 0, 0}},
		{[]int64{4, 9}, 3, 3, []int64{0, 248, 0, 0, 0, 0, 89, 0, 0}},
		{[]int64{9, 4}, 3, 3, []int64{0, 248, 0, 0, 0, 0, 89, 0, 0}},
		{[]int64{1, 2, 3}, 4, 7, []int64{36, 0, 28, 70, 0, 0, 0, 0, 0, 0, 0, 0}},
		{[]int64{3, 1, 2}, 4, 7, []int64{36, 0, 28, 70, 0, 0, 0, 0, 0, 0, 0, 0}},
		// At first, only the last cell has just one key.
		{[]int64{3, 8, 1, 18}, 2, 3, []int64{142, 3, 228, 0, 0, 58}},
		{[]int64{6, 4, 1, 16}, 2, greatestKey, []int64{196, 121, 71, 0, 0, 97}},
		{upTo(8), 7, 0, []int64{39, 0, 138, 166, 10, 167, 80, 39, 31, 0, 0, 0, 0, 0, 0, 0, 0, 0, 0, 0, 0}},
		{twelve, 6, greatestKey, []int64{1, 97, 91, 6, 0, 209, 153, 230, 230, 0, 0, 230, 228, 197, 0, 218, 0, 0}},
	}
	for _, row := range rows {
		wantShown(t, "PeelCells", wrapped(impl.PeelCells(row.keys, row.size, row.salt)), row.want, true)
	}
}

func TestPeelCellsOfTheGreatestSize(t *testing.T) {
	keys := []int64{}
	for i := range int64(256) {
		keys = append(keys, seriesKey(i))
	}
	rows := []struct {
		salt, weighed int64
		first         []int64
	}{
		{0, 4984471, []int64{242, 190, 158, 116, 50, 46, 53, 0}},
		{3, 5336760, []int64{244, 0, 145, 15, 185, 216, 44, 0}},
		{7, 4699407, []int64{129, 0, 70, 245, 186, 11, 204, 208}},
		{greatestKey, 5314635, []int64{228, 42, 13, 79, 192, 33, 87, 41}},
	}
	for _, row := range rows {
		got, ok := impl.PeelCells(keys, 128, row.salt)
		if !ok || len(got) != 384 {
			t.Fatalf("PeelCells of 256 keys: got %v, %v", got, ok)
		}
		wantShown(t, "PeelCells of 256 keys", shown(got[:8], weighed(got)), row.first, row.weighed)
		slices.Reverse(keys)
		wantShown(t, "the opposite order", wrapped(impl.PeelCells(keys, 128, row.salt)), got, true)
	}
	wantShown(t, "too many keys for their cells", wrapped(impl.PeelCells(keys, 85, 3)), []int64{}, false)
	wantShown(t, "nearly too many keys", wrapped(impl.PeelCells(keys, 105, 3)), []int64{}, false)
	if _, ok := impl.PeelCells(keys, 110, 3); !ok {
		t.Error("PeelCells of 256 keys with 330 cells: got false")
	}
}

func TestPeelCellsFails(t *testing.T) {
	none := []int64{}
	wantShown(t, "two keys at the size 1", wrapped(impl.PeelCells([]int64{4, 5}, 1, 3)), none, false)
	wantShown(t, "two keys with the same cells of 6", wrapped(impl.PeelCells([]int64{1, 4}, 2, 3)), none, false)
	wantShown(t, "two keys with the same cells of 9", wrapped(impl.PeelCells([]int64{0, 3}, 3, 3)), none, false)
	wantShown(t, "two keys with the same cells of 384", wrapped(impl.PeelCells([]int64{319, 348}, 128, 3)), none, false)
	wantShown(t, "keys around those that cannot be peeled", wrapped(impl.PeelCells([]int64{5, 319, 7, 348, 9}, 128, 3)), none, false)
	wantShown(t, "six keys", wrapped(impl.PeelCells([]int64{5, 6, 7, 8, 9, 10}, 5, greatestKey-1)), none, false)
	for _, keys := range [][]int64{{4, 4}, {4, 5, 4}, {greatestKey, 0, greatestKey}, repeated(int64(7), 256), upTo(257), {-1}, {5, greatestKey + 1}, {math.MinInt64}} {
		wantShown(t, "other keys", wrapped(impl.PeelCells(keys, 128, 3)), none, false)
	}
	for _, size := range wrongSizes {
		wantShown(t, "other sizes", wrapped(impl.PeelCells([]int64{4}, size, 3)), none, false)
		wantShown(t, "other sizes and no keys", wrapped(impl.PeelCells(nil, size, 3)), none, false)
	}
	for _, salt := range []int64{-1, greatestKey + 1, math.MaxInt64, math.MinInt64} {
		wantShown(t, "other salts", wrapped(impl.PeelCells([]int64{4}, 1, salt)), none, false)
		wantShown(t, "other salts", wrapped(impl.InPeeled([]int64{161, 0, 0}, 4, salt)), false, false)
		wantShown(t, "other keys", wrapped(impl.InPeeled([]int64{161, 0, 0}, salt, 3)), false, false)
	}
}

func TestInPeeled(t *testing.T) {
	rows := []struct {
		list      []int64
		key, salt int64
		want      bool
	}{
		{[]int64{161, 0, 0}, 4, 3, true},
		{[]int64{0, 161, 0}, 4, 3, true},
		{[]int64{0, 0, 161}, 4, 3, true},
		{[]int64{161, 255, 255}, 4, 3, true},
		{[]int64{161 ^ 85, 85 ^ 240, 240}, 4, 3, true},
		{[]int64{161, 161, 161}, 4, 3, true},
		{[]int64{161, 161, 0}, 4, 3, false},
		{[]int64{0, 0, 0}, 4, 3, false},
		{[]int64{160, 0, 0}, 4, 3, false},
		{[]int64{255, 255, 255}, 4, 3, false},
		{[]int64{255, 255, 255}, 227, 3, true},
		{[]int64{1, 0, 0}, 226, 3, true},
		{[]int64{161, 0, 0}, 4, 4, false},
		{make([]int64, 384), 4, 3, false},
		{repeated(int64(161), 384), 4, 3, true},
	}
	for _, row := range rows {
		wantShown(t, "InPeeled", wrapped(impl.InPeeled(row.list, row.key, row.salt)), row.want, true)
	}
	// The key has the cells 12, 242 and 313 of 384, and the mark 177, with salts that pass the greatest one.
	for at := range int64(384) {
		list := make([]int64, 384)
		list[at] = 177
		in := at == 12 || at == 242 || at == 313
		wantShown(t, "InPeeled with one cell", wrapped(impl.InPeeled(list, greatestKey, greatestKey-1)), in, true)
	}
	for what, list := range notPeeled() {
		wantShown(t, "InPeeled with "+what, wrapped(impl.InPeeled(list, 4, 3)), false, false)
	}
}
