package tests

import (
	"maps"
	"math"
	"slices"
	"testing"

	"loop.example/g01347/impl"
)

// ordered are the values of a map in the order of their names.
func ordered[T any](named map[string]T) []T {
	list := []T{}
	for _, name := range slices.Sorted(maps.Keys(named)) {
		list = append(list, named[name])
	}
	return list
}

func awkwardCells() []impl.Cells {
	return append(ordered(invalidCells()), cells(2, 1, 0, 0, 0), cells(2, 1, 0, impl.MaxCell, -impl.MaxCell), evenCells(4, 2, 5, 3), evenCells(4, 2, 5, 1000000), evenCells(64, 6, greatestKey, impl.MaxCell), evenCells(64, 6, greatestKey, -7), cells(3, 2, 9, 1, -2, 3, -4, 5, -6))
}

func awkwardTops() []impl.Tops {
	return append(ordered(invalidTops()), tops(1, nil, nil, nil), oneTop(0, 1, 0), oneTop(greatestKey, impl.MaxCell, impl.MaxCell-1), tops(3, []int64{9, 4}, []int64{5, 2}, []int64{0, 1}), tops(32, upTo(32), repeated(int64(impl.MaxCell), 32), upTo(32)), tops(32, upTo(64)[32:], repeated(int64(3), 32), repeated(int64(2), 32)))
}

func awkwardLayers() [][]impl.Cells {
	full := layers(2, 1, 7)
	for j := range full {
		full[j] = evenCells(2, 1, full[j].Salt, impl.MaxCell)
	}
	return append(ordered(invalidLayers()), layers(2, 1, 0), layers(64, 6, greatestKey), full)
}

func awkwardSteps() []int64 {
	return []int64{0, 1, -1, 1000000, 1000001, -1000000, -1000001, math.MaxInt64, math.MinInt64}
}

// cellsResults has a line for each function of cells.
func cellsResults() []string {
	lines := []string{}
	for _, c := range awkwardCells() {
		lines = append(lines, shown("cells", impl.ValidCells(c)), wrapped(impl.NewCells(c.Wide, c.Deep, c.Salt)), wrapped(impl.CellsTotal(c)), wrapped(impl.SignedNorm(c)))
		for _, key := range awkwardKeys() {
			lines = append(lines, wrapped(impl.PlacesOf(c, key)), wrapped(impl.CellsAt(c, key)), wrapped(impl.CorrectedAt(c, key)), wrapped(impl.SignedAt(c, key)))
			for _, by := range awkwardSteps() {
				lines = append(lines, wrapped(impl.PutCells(c, key, by)), wrapped(impl.PutCareful(c, key, by)), wrapped(impl.PutSigned(c, key, by)))
			}
		}
		for _, other := range awkwardCells() {
			lines = append(lines, shown("same", impl.SameCells(c, other)), wrapped(impl.MergeCells(c, other)), wrapped(impl.CellsDot(c, other)))
		}
		for _, list := range awkwardLists() {
			for _, workers := range awkwardCounts() {
				lines = append(lines, wrapped(impl.CellsShared(c.Wide, c.Deep, c.Salt, [][]int64{list, nil, list}, workers)))
			}
		}
	}
	for _, lists := range [][][]int64{nil, {}, {nil}, make([][]int64, 16), make([][]int64, 17), make([][]int64, 5000)} {
		lines = append(lines, wrapped(impl.CellsShared(2, 1, 0, lists, 8)))
	}
	return lines
}

// topsResults has a line for each function of tops, and of exact counts.
func topsResults() []string {
	lines := []string{}
	for _, top := range awkwardTops() {
		lines = append(lines, shown("tops", impl.ValidTops(top)))
		for _, n := range append(awkwardKeys(), 3, impl.MaxCell) {
			low, high, ok := impl.TopBounds(top, n)
			lines = append(lines, shown("bounds", low, high, ok), wrapped(impl.PutTop(top, n)), wrapped(impl.HeavyTops(top, n)))
		}
		for _, other := range awkwardTops() {
			lines = append(lines, shown("same", impl.SameTops(top, other)), wrapped(impl.MergeTops(top, other)))
		}
	}
	for _, list := range awkwardLists() {
		keys, counts, ok := impl.ExactCounts(list)
		lines = append(lines, shown("exact", keys, counts, ok))
		for _, room := range awkwardCounts() {
			lines = append(lines, wrapped(impl.TopsOf(room, list)))
		}
	}
	return lines
}

// layersResults has a line for each function of layers.
func layersResults() []string {
	lines := []string{}
	for _, list := range awkwardLayers() {
		for _, n := range awkwardSteps() {
			lines = append(lines, wrapped(impl.HeavyLayers(list, n)))
			for _, key := range awkwardKeys() {
				lines = append(lines, wrapped(impl.PutLayers(list, key, n)))
			}
		}
	}
	for _, c := range awkwardCells() {
		lines = append(lines, wrapped(impl.NewLayers(c.Wide, c.Deep, c.Salt)))
	}
	return lines
}

func TestPromise1CountsReturnEqualResults(t *testing.T) {
	for _, results := range []func() []string{cellsResults, topsResults, layersResults} {
		first, again := results(), results()
		for i := range first {
			wantSame(t, "again", again[i], first[i])
		}
	}
}

// roomy is a copy of a list with other numbers in the room behind it.
func roomy[T int64 | float32 | complex64](list []T) []T {
	return append(append([]T{}, list...), 77, 78, 79)[:len(list)]
}

// whole is a list with the room behind it.
func whole[T any](list []T) []T {
	return list[:cap(list)]
}

func wantCellsKept(t *testing.T, what string, c impl.Cells, call func(c impl.Cells)) {
	t.Helper()
	c.Counts = roomy(c.Counts)
	before := shown(c, whole(c.Counts))
	call(c)
	wantSame(t, what, shown(c, whole(c.Counts)), before)
}

func TestPromise1CountsKeepCells(t *testing.T) {
	calls := map[string]func(c impl.Cells){
		"ValidCells":  func(c impl.Cells) { impl.ValidCells(c) },
		"SameCells":   func(c impl.Cells) { impl.SameCells(c, c) },
		"PlacesOf":    func(c impl.Cells) { impl.PlacesOf(c, 7) },
		"PutCells":    func(c impl.Cells) { impl.PutCells(c, 7, 3) },
		"PutCareful":  func(c impl.Cells) { impl.PutCareful(c, 7, 3) },
		"CellsAt":     func(c impl.Cells) { impl.CellsAt(c, 7) },
		"CellsTotal":  func(c impl.Cells) { impl.CellsTotal(c) },
		"CorrectedAt": func(c impl.Cells) { impl.CorrectedAt(c, 7) },
		"MergeCells":  func(c impl.Cells) { impl.MergeCells(c, c) },
		"CellsDot":    func(c impl.Cells) { impl.CellsDot(c, c) },
		"PutSigned":   func(c impl.Cells) { impl.PutSigned(c, 7, 3) },
		"SignedAt":    func(c impl.Cells) { impl.SignedAt(c, 7) },
		"SignedNorm":  func(c impl.Cells) { impl.SignedNorm(c) },
	}
	for what, call := range calls {
		for _, c := range []impl.Cells{cells(4, 2, 5, 9, 8, 7, 6, 5, 4, 3, 2), cells(2, 6, 5, 12, 11, 10, 9, 8, 7, 6, 5, 4, 3, 2, 1), evenCells(4, 2, 5, impl.MaxCell), cells(4, 2, 5, 9, 8, 7), cells(4, 2, 5)} {
			wantCellsKept(t, what, c, call)
		}
	}
}

func TestPromise1CountsKeepTops(t *testing.T) {
	calls := map[string]func(top impl.Tops){
		"ValidTops": func(top impl.Tops) { impl.ValidTops(top) },
		"SameTops":  func(top impl.Tops) { impl.SameTops(top, top) },
		"PutTop":    func(top impl.Tops) { impl.PutTop(top, 7); impl.PutTop(top, 9) },
		"TopBounds": func(top impl.Tops) { impl.TopBounds(top, 7) },
		"HeavyTops": func(top impl.Tops) { impl.HeavyTops(top, 0) },
		"MergeTops": func(top impl.Tops) { impl.MergeTops(top, top) },
	}
	for what, call := range calls {
		for _, top := range []impl.Tops{tops(2, []int64{9, 4}, []int64{2, 5}, []int64{0, 1}), tops(4, []int64{9, 4}, []int64{2, 5}, []int64{0, 1}), tops(4, nil, nil, nil), tops(2, []int64{9, 9}, []int64{2, 5}, []int64{0, 1})} {
			top.Keys, top.Counts, top.Errors = roomy(top.Keys), roomy(top.Counts), roomy(top.Errors)
			before := shown(top, whole(top.Keys), whole(top.Counts), whole(top.Errors))
			call(top)
			wantSame(t, what, shown(top, whole(top.Keys), whole(top.Counts), whole(top.Errors)), before)
		}
	}
}

func TestPromise1CountsKeepLists(t *testing.T) {
	lists := map[string]func(list []int64){
		"TopsOf":      func(list []int64) { impl.TopsOf(2, list) },
		"ExactCounts": func(list []int64) { impl.ExactCounts(list) },
		"CellsShared": func(list []int64) { impl.CellsShared(4, 2, 5, [][]int64{list, list}, 2) },
	}
	for what, call := range lists {
		wantKept(t, what, 9, 3, call)
		wantKept(t, what, 3, 9, call)
		wantKept(t, what+" that fails", -1, 7, call)
	}
	many := append(make([][]int64, 0, 9), []int64{4, 0}, nil, []int64{9})
	before := shown(many[:9])
	impl.CellsShared(4, 2, 5, many, 8)
	wantSame(t, "CellsShared", shown(many[:9]), before)
}

func TestPromise1CountsKeepLayers(t *testing.T) {
	list := append(layersOf(t, 4, 2, 5, []int64{0, 77, greatestKey}), evenCells(2, 1, 0, 99))[:8]
	for j := range list {
		list[j].Counts = roomy(list[j].Counts)
	}
	show := func() string {
		text := shown(list[:9])
		for _, layer := range list {
			text += shown(whole(layer.Counts))
		}
		return text
	}
	before := show()
	impl.PutLayers(list, 77, 3)
	impl.PutLayers(list, 77, -3)
	impl.HeavyLayers(list, 1)
	impl.HeavyLayers(list, 0)
	wantSame(t, "layers", show(), before)
}

// spoilAny changes a list of integers, of numbers, or of bits, and the room behind it.
func spoilAny(list any) {
	switch x := list.(type) {
	case []int64:
		spoil(x)
	case []float32:
		spoil(x)
	case []complex64:
		spoil(x)
	case []bool:
		for i, bit := range whole(x) {
			x[:cap(x)][i] = !bit
		}
	}
}

// wantNew checks that the lists of a result share memory neither with each other nor with the lists of the arguments.
func wantNew[T any](t *testing.T, what string, args []T, call func() []T) {
	t.Helper()
	before, kept := call(), shown(args)
	want := shown(before)
	for i := range before {
		lists := call()
		for k, list := range lists {
			if k != i {
				spoilAny(list)
			}
		}
		wantSame(t, what, shown(lists[i]), shown(call()[i]))
		spoilAny(lists[i])
	}
	wantSame(t, what, shown(call())+shown(args), want+kept)
}

// partsOfCells are the lists of cells.
func partsOfCells(c ...impl.Cells) [][]int64 {
	lists := [][]int64{}
	for _, each := range c {
		lists = append(lists, each.Counts)
	}
	return lists
}

func TestPromise1CountsReturnNewCells(t *testing.T) {
	c := cells(4, 2, 5, roomy([]int64{9, 8, 7, 6, 5, 4, 3, 2})...)
	empty := cells(4, 2, 5, roomy(make([]int64, 8))...)
	calls := map[string]func() (impl.Cells, bool){
		"NewCells":              func() (impl.Cells, bool) { return impl.NewCells(4, 2, 5) },
		"PutCells":              func() (impl.Cells, bool) { return impl.PutCells(c, 7, 3) },
		"PutCells by nothing":   func() (impl.Cells, bool) { return impl.PutCells(c, 7, 0) },
		"PutCareful":            func() (impl.Cells, bool) { return impl.PutCareful(c, 7, 3) },
		"PutCareful by nothing": func() (impl.Cells, bool) { return impl.PutCareful(c, 7, 0) },
		"PutSigned":             func() (impl.Cells, bool) { return impl.PutSigned(c, 7, 3) },
		"PutSigned by nothing":  func() (impl.Cells, bool) { return impl.PutSigned(c, 7, 0) },
		"MergeCells":            func() (impl.Cells, bool) { return impl.MergeCells(c, empty) },
		"CellsShared":           func() (impl.Cells, bool) { return impl.CellsShared(4, 2, 5, [][]int64{nil}, 1) },
	}
	for what, call := range calls {
		wantNew(t, what, [][]int64{whole(c.Counts), whole(empty.Counts)}, func() [][]int64 {
			got, ok := call()
			wantTrue(t, what, ok)
			return partsOfCells(got)
		})
	}
	wantNew(t, "PlacesOf", [][]int64{whole(c.Counts)}, func() [][]int64 {
		places, _ := impl.PlacesOf(c, 7)
		return [][]int64{places}
	})
}

func TestPromise1CountsReturnNewTops(t *testing.T) {
	top := tops(4, roomy([]int64{9, 4}), roomy([]int64{5, 5}), roomy([]int64{1, 1}))
	empty := tops(4, roomy([]int64{}), roomy([]int64{}), roomy([]int64{}))
	args := [][]int64{whole(top.Keys), whole(top.Counts), whole(top.Errors), whole(empty.Keys), whole(empty.Counts), whole(empty.Errors)}
	calls := map[string]func() (impl.Tops, bool){
		"PutTop":                func() (impl.Tops, bool) { return impl.PutTop(top, 9) },
		"PutTop of another key": func() (impl.Tops, bool) { return impl.PutTop(top, 8) },
		"PutTop of a first key": func() (impl.Tops, bool) { return impl.PutTop(empty, 8) },
		"TopsOf":                func() (impl.Tops, bool) { return impl.TopsOf(4, args[0]) },
		"MergeTops":             func() (impl.Tops, bool) { return impl.MergeTops(top, empty) },
		"MergeTops of none":     func() (impl.Tops, bool) { return impl.MergeTops(empty, empty) },
	}
	for what, call := range calls {
		wantNew(t, what, args, func() [][]int64 {
			got, ok := call()
			wantTrue(t, what, ok)
			return [][]int64{got.Keys, got.Counts, got.Errors}
		})
	}
	wantNew(t, "HeavyTops", args, func() [][]int64 {
		heavy, _ := impl.HeavyTops(top, 0)
		return [][]int64{heavy}
	})
	keys := roomy([]int64{3, 4, 4, 9})
	wantNew(t, "ExactCounts", [][]int64{whole(keys)}, func() [][]int64 {
		found, counts, _ := impl.ExactCounts(keys)
		return [][]int64{found, counts}
	})
}

func TestPromise1CountsReturnNewLayers(t *testing.T) {
	list := layersOf(t, 4, 2, 5, []int64{0, 77, greatestKey})
	wantNew(t, "NewLayers", nil, func() [][]int64 {
		got, _ := impl.NewLayers(4, 2, 5)
		return partsOfCells(got...)
	})
	for _, by := range []int64{0, 3} {
		wantNew(t, "PutLayers", partsOfCells(list...), func() [][]int64 {
			got, _ := impl.PutLayers(list, 77, by)
			return partsOfCells(got...)
		})
	}
	wantNew(t, "HeavyLayers", partsOfCells(list...), func() [][]int64 {
		got, _ := impl.HeavyLayers(list, 1)
		return [][]int64{got}
	})
	got, _ := impl.PutLayers(list, 77, 0)
	before := shown(list)
	got[3] = impl.Cells{}
	wantSame(t, "layers after a change of others", shown(list), before)
}

func TestPromise1CountsFailWithZeroValues(t *testing.T) {
	noNumber, noList, noFloat, noCells, noTops := shown(0, false), shown([]int64{}, false), shown(float32(0), false), shown(impl.Cells{}, false), shown(impl.Tops{}, false)
	few := evenCells(4, 2, 5, 1)
	for what, c := range invalidCells() {
		wantSame(t, "PlacesOf with "+what, wrapped(impl.PlacesOf(c, 7)), noList)
		wantSame(t, "PutCells with "+what, wrapped(impl.PutCells(c, 7, 1)), noCells)
		wantSame(t, "PutCareful with "+what, wrapped(impl.PutCareful(c, 7, 1)), noCells)
		wantSame(t, "PutSigned with "+what, wrapped(impl.PutSigned(c, 7, 1)), noCells)
		wantSame(t, "CellsAt with "+what, wrapped(impl.CellsAt(c, 7)), noNumber)
		wantSame(t, "CellsTotal with "+what, wrapped(impl.CellsTotal(c)), noNumber)
		wantSame(t, "CorrectedAt with "+what, wrapped(impl.CorrectedAt(c, 7)), noFloat)
		wantSame(t, "SignedAt with "+what, wrapped(impl.SignedAt(c, 7)), noNumber)
		wantSame(t, "SignedNorm with "+what, wrapped(impl.SignedNorm(c)), noNumber)
		for _, pair := range [][2]impl.Cells{{c, c}, {c, few}, {few, c}} {
			wantSame(t, "MergeCells with "+what, wrapped(impl.MergeCells(pair[0], pair[1])), noCells)
			wantSame(t, "CellsDot with "+what, wrapped(impl.CellsDot(pair[0], pair[1])), noNumber)
		}
	}
	for _, key := range []int64{-1, greatestKey + 1, math.MaxInt64, math.MinInt64} {
		wantSame(t, "PutCells no key", wrapped(impl.PutCells(few, key, 1)), noCells)
		wantSame(t, "PutCareful no key", wrapped(impl.PutCareful(few, key, 1)), noCells)
		wantSame(t, "PutSigned no key", wrapped(impl.PutSigned(few, key, 1)), noCells)
		wantSame(t, "CellsAt no key", wrapped(impl.CellsAt(few, key)), noNumber)
		wantSame(t, "CorrectedAt no key", wrapped(impl.CorrectedAt(few, key)), noFloat)
		wantSame(t, "SignedAt no key", wrapped(impl.SignedAt(few, key)), noNumber)
	}
	for what, top := range invalidTops() {
		low, high, ok := impl.TopBounds(top, 7)
		wantSame(t, "TopBounds with "+what, shown(low, high, ok), shown(0, 0, false))
		wantSame(t, "PutTop with "+what, wrapped(impl.PutTop(top, 7)), noTops)
		wantSame(t, "HeavyTops with "+what, wrapped(impl.HeavyTops(top, 0)), noList)
		some := tops(max(1, min(top.Room, 32)), nil, nil, nil)
		for _, pair := range [][2]impl.Tops{{top, top}, {top, some}, {some, top}} {
			wantSame(t, "MergeTops with "+what, wrapped(impl.MergeTops(pair[0], pair[1])), noTops)
		}
	}
}
