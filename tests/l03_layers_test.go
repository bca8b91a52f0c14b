package tests

import (
	"math"
	"testing"

	"loop.example/g01347/impl"
)

// layers are layers without counts, made without the program.
func layers(wide, deep, salt int64) []impl.Cells {
	list := make([]impl.Cells, 8)
	for j := range list {
		list[j] = evenCells(wide, deep, (salt+100*int64(j))%(greatestKey+1), 0)
	}
	return list
}

// layersOf are layers in which each of these keys was put once.
func layersOf(t *testing.T, wide, deep, salt int64, keys []int64) []impl.Cells {
	t.Helper()
	list := layers(wide, deep, salt)
	for _, key := range keys {
		next, ok := impl.PutLayers(list, key, 1)
		wantTrue(t, "PutLayers", ok)
		list = next
	}
	return list
}

// changed are the layers with another one at an index.
func changed(list []impl.Cells, at int, c impl.Cells) []impl.Cells {
	list = append([]impl.Cells{}, list...)
	list[at] = c
	return list
}

// invalidLayers are cells that are not layers.
func invalidLayers() map[string][]impl.Cells {
	some, high := layers(4, 2, 5), layers(4, 2, greatestKey-250)
	list := map[string][]impl.Cells{
		"nil":                     nil,
		"no layers":               {},
		"seven layers":            some[:7],
		"nine layers":             append(layers(4, 2, 5), evenCells(4, 2, 805, 0)),
		"eight zero structs":      make([]impl.Cells, 8),
		"equal salts":             changed(some, 1, some[0]),
		"a first salt":            changed(some, 0, evenCells(4, 2, 6, 0)),
		"a last salt":             changed(some, 7, evenCells(4, 2, 706, 0)),
		"another wide":            changed(some, 3, evenCells(8, 2, 305, 0)),
		"another deep":            changed(some, 3, evenCells(4, 3, 305, 0)),
		"an opposite shape":       changed(some, 3, evenCells(2, 4, 305, 0)),
		"a salt that goes on":     changed(high, 3, evenCells(4, 2, greatestKey+50, 0)),
		"a salt that stays":       changed(high, 3, evenCells(4, 2, greatestKey, 0)),
		"a salt that is one less": changed(high, 3, evenCells(4, 2, 48, 0)),
	}
	for what, c := range invalidCells() {
		list["a last one with "+what] = changed(some, 7, c)
		list["a first one with "+what] = changed(some, 0, c)
	}
	return list
}

func TestNewLayers(t *testing.T) {
	for _, row := range [][3]int64{{4, 2, 5}, {64, 6, greatestKey}, {2, 1, 0}, {3, 2, greatestKey - 250}, {3, 2, greatestKey - 699}, {3, 2, greatestKey - 700}} {
		wantShown(t, "NewLayers", wrapped(impl.NewLayers(row[0], row[1], row[2])), layers(row[0], row[1], row[2]), true)
	}
	list, _ := impl.NewLayers(2, 1, greatestKey)
	for j, salt := range []int64{greatestKey, 99, 199, 299, 399, 499, 599, 699} {
		wantShown(t, "NewLayers", shown(list[j]), cells(2, 1, salt, 0, 0))
	}
	for _, row := range [][3]int64{{1, 1, 0}, {65, 1, 0}, {2, 0, 0}, {2, 7, 0}, {2, 1, -1}, {2, 1, -100}, {2, 1, greatestKey + 1}, {math.MinInt64, 1, 0}, {2, math.MaxInt64, 0}, {2, 1, math.MaxInt64}, {2, 1, math.MinInt64}} {
		wantShown(t, "NewLayers", wrapped(impl.NewLayers(row[0], row[1], row[2])), []impl.Cells{}, false)
	}
}

func TestPutLayers(t *testing.T) {
	list := layers(3, 2, greatestKey-250)
	for _, put := range [][2]int64{{305419896, 2}, {greatestKey, 5}, {0, 1000000}} {
		next, ok := impl.PutLayers(list, put[0], put[1])
		wantTrue(t, "PutLayers", ok)
		list = next
	}
	want := []impl.Cells{cells(3, 2, 4294967045, 1000007, 0, 0, 5, 0, 1000002), cells(3, 2, 4294967145, 0, 1000005, 2, 0, 1000002, 5), cells(3, 2, 4294967245, 7, 1000000, 0, 0, 7, 1000000), cells(3, 2, 49, 1000005, 0, 2, 1000000, 2, 5), cells(3, 2, 149, 0, 1000005, 2, 2, 1000000, 5), cells(3, 2, 249, 0, 1000000, 7, 2, 5, 1000000), cells(3, 2, 349, 0, 1000000, 7, 0, 1000007, 0), cells(3, 2, 449, 1000002, 5, 0, 0, 1000002, 5)}
	wantShown(t, "PutLayers", shown(list), want)
	wantShown(t, "nothing", wrapped(impl.PutLayers(list, 9, 0)), want, true)
	for _, by := range []int64{-1, 1000001, math.MaxInt64, math.MinInt64} {
		wantShown(t, "PutLayers by "+impl.Decimal(by), wrapped(impl.PutLayers(list, 9, by)), []impl.Cells{}, false)
	}
	for _, key := range []int64{-1, -16, greatestKey + 1, math.MaxInt64, math.MinInt64} {
		wantShown(t, "no key", wrapped(impl.PutLayers(list, key, 1)), []impl.Cells{}, false)
	}
	for what, other := range invalidLayers() {
		wantShown(t, "PutLayers to "+what, wrapped(impl.PutLayers(other, 9, 1)), []impl.Cells{}, false)
	}
}

func TestPutLayersTakesPrefixes(t *testing.T) {
	list, prefixes := layers(64, 2, 9), []int64{15, 254, 4077, 65244, 1043915, 16702650, 267242409, 4275878552}
	got, ok := impl.PutLayers(list, 0xfedcba98, 3)
	wantTrue(t, "PutLayers", ok)
	for j, prefix := range prefixes {
		wantShown(t, "the layer "+impl.Decimal(int64(j)), wrapped(impl.PutCells(list[j], prefix, 3)), got[j], true)
	}
}

func TestPutLayersAtLimits(t *testing.T) {
	list := layers(2, 1, 5)
	for j := range list {
		near := changed(list, j, evenCells(2, 1, list[j].Salt, impl.MaxCell-5))
		got, ok := impl.PutLayers(near, 77, 5)
		wantTrue(t, "up to the limit", ok)
		wantShown(t, "up to the limit", wrapped(impl.CellsAt(got[j], 77>>(4*(7-j)))), impl.MaxCell, true)
		wantShown(t, "above the limit", wrapped(impl.PutLayers(near, 77, 6)), []impl.Cells{}, false)
	}
}

func TestHeavyLayersAtTheGreatestNumberOfPrefixes(t *testing.T) {
	top := make([]int64, 65)
	for i := range top {
		top[i] = greatestKey - 64 + int64(i)
	}
	for _, salt := range []int64{0, 9, greatestKey} {
		wantShown(t, "64 keys", wrapped(impl.HeavyLayers(layersOf(t, 64, 6, salt, upTo(64)), 1)), upTo(64), true)
		wantShown(t, "65 keys", wrapped(impl.HeavyLayers(layersOf(t, 64, 6, salt, upTo(65)), 1)), []int64{}, false)
		wantShown(t, "the greatest 64 keys", wrapped(impl.HeavyLayers(layersOf(t, 64, 6, salt, top[1:]), 1)), top[1:], true)
		wantShown(t, "the greatest 65 keys", wrapped(impl.HeavyLayers(layersOf(t, 64, 6, salt, top), 1)), []int64{}, false)
	}
	apart := make([]int64, 65)
	for i := range apart {
		apart[i] = int64(i) << 8
	}
	// Nothing is left of the prefixes when the layer behind the one that has most is empty.
	some := layersOf(t, 64, 6, 0, apart[:64])
	wantShown(t, "64 prefixes in the middle", wrapped(impl.HeavyLayers(changed(some, 6, evenCells(64, 6, 600, 0)), 1)), []int64{}, true)
	many := layersOf(t, 64, 6, 0, apart)
	wantShown(t, "65 prefixes in the middle", wrapped(impl.HeavyLayers(changed(many, 6, evenCells(64, 6, 600, 0)), 1)), []int64{}, false)
	full := layers(2, 1, 0)
	for j := range full {
		full[j] = evenCells(2, 1, full[j].Salt, 1)
	}
	wantShown(t, "all prefixes", wrapped(impl.HeavyLayers(full, 1)), []int64{}, false)
	wantShown(t, "no prefixes", wrapped(impl.HeavyLayers(full, 2)), []int64{}, true)
	wantShown(t, "all prefixes of two layers", wrapped(impl.HeavyLayers(changed(full, 2, evenCells(2, 1, 200, 0)), 1)), []int64{}, false)
	wantShown(t, "all prefixes of one layer", wrapped(impl.HeavyLayers(changed(full, 1, evenCells(2, 1, 100, 0)), 1)), []int64{}, true)
}

func TestHeavyLayers(t *testing.T) {
	first := make([]int64, 16)
	for i := range first {
		first[i] = int64(i) << 28
	}
	wantShown(t, "keys of all first digits", wrapped(impl.HeavyLayers(layersOf(t, 64, 6, 9, first), 1)), first, true)
	list := layers(16, 3, 7)
	for i := range int64(30) {
		list, _ = impl.PutLayers(list, i*i*66123+i, i+1)
	}
	wantShown(t, "at least 30", wrapped(impl.HeavyLayers(list, 30)), []int64{9531733, 9531855, 9531898, 9532138, 9532143, 9533304, 10270125, 10272274, 10272383, 10277636, 10277646, 10279173, 10437676, 10437857, 10437985, 10437994, 19455127, 19455132, 19455163, 19455164, 19455166, 32357129, 32357320, 32357331, 32470311, 32485929, 32485931, 32486086, 34689030, 34689032, 34689108, 34689117, 34689232, 34689240, 52370744, 55582365, 55609349, 55609458, 55609472, 55609473, 56511038, 66614019}, true)
	wantShown(t, "at least 28", wrapped(impl.HeavyLayers(list, 28)), []int64{}, false)
	wantShown(t, "at least 31", wrapped(impl.HeavyLayers(list, 31)), []int64{32486086, 56511038, 66614019}, true)
	wantShown(t, "at least 32", wrapped(impl.HeavyLayers(list, 32)), []int64{56511038}, true)
	wantShown(t, "at least 50", wrapped(impl.HeavyLayers(list, 50)), []int64{}, true)
	wantShown(t, "at least the greatest number", wrapped(impl.HeavyLayers(list, math.MaxInt64)), []int64{}, true)
	wantShown(t, "empty layers", wrapped(impl.HeavyLayers(layers(2, 1, 0), 1)), []int64{}, true)
	low := layers(2, 1, 0)
	for j := range low {
		low[j] = evenCells(2, 1, low[j].Salt, -impl.MaxCell)
	}
	wantShown(t, "counts below zero", wrapped(impl.HeavyLayers(low, 1)), []int64{}, true)
	for _, least := range []int64{0, -1, math.MinInt64} {
		wantShown(t, "at least "+impl.Decimal(least), wrapped(impl.HeavyLayers(list, least)), []int64{}, false)
		wantShown(t, "counts below zero, at least "+impl.Decimal(least), wrapped(impl.HeavyLayers(low, least)), []int64{}, false)
	}
	for what, other := range invalidLayers() {
		wantShown(t, "HeavyLayers of "+what, wrapped(impl.HeavyLayers(other, 1)), []int64{}, false)
	}
}
