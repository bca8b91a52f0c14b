package tests

import (
	"math"
	"testing"

	"loop.example/g01347/impl"
)

// cells are the cells with these counts, made without the program.
func cells(wide, deep, salt int64, counts ...int64) impl.Cells {
	return impl.Cells{Wide: wide, Deep: deep, Salt: salt, Counts: counts}
}

// evenCells are cells all counts of which are the same.
func evenCells(wide, deep, salt, count int64) impl.Cells {
	return cells(wide, deep, salt, repeated(count, int(wide*deep))...)
}

// invalidCells pass each limit of cells by one, and far.
func invalidCells() map[string]impl.Cells {
	list := map[string]impl.Cells{
		"the zero struct":    {},
		"a wide of one":      evenCells(1, 2, 5, 0),
		"a wide of 65":       evenCells(65, 2, 5, 0),
		"no rows":            cells(2, 0, 5),
		"seven rows":         evenCells(2, 7, 5, 0),
		"a salt below":       evenCells(4, 2, -1, 0),
		"a salt above":       evenCells(4, 2, greatestKey+1, 0),
		"nil counts":         cells(4, 2, 5),
		"a count too few":    cells(4, 2, 5, 0, 0, 0, 0, 0, 0, 0),
		"a count too many":   cells(4, 2, 5, 0, 0, 0, 0, 0, 0, 0, 0, 0),
		"a row too few":      cells(4, 2, 5, 0, 0, 0, 0),
		"a first count":      cells(2, 1, 5, impl.MaxCell+1, 0),
		"a last count":       cells(2, 1, 5, 0, -impl.MaxCell-1),
		"far counts":         cells(2, 1, 5, math.MaxInt64, math.MinInt64),
		"opposite numbers":   cells(-2, -1, 5, 0, 0),
		"a product of 2^64":  cells(1<<62, 4, 5),
		"a product of zero":  cells(0, 6, 5),
		"the least numbers":  cells(math.MinInt64, math.MinInt64, math.MinInt64),
		"no wide, all salts": cells(0, 0, math.MaxInt64),
	}
	return list
}

func TestValidCells(t *testing.T) {
	for _, c := range []impl.Cells{cells(2, 1, 0, 0, 0), evenCells(64, 6, greatestKey, impl.MaxCell), evenCells(64, 1, 0, -impl.MaxCell), evenCells(2, 6, greatestKey, 7), cells(2, 2, 9, -1, impl.MaxCell, 0, -impl.MaxCell)} {
		wantTrue(t, "ValidCells "+shown(c), impl.ValidCells(c))
	}
	for what, c := range invalidCells() {
		wantFalse(t, "ValidCells with "+what, impl.ValidCells(c))
	}
}

func TestSameCells(t *testing.T) {
	a := cells(2, 2, 5, 1, 2, 3, 4)
	for _, c := range []impl.Cells{a, {}, cells(1, 0, -4, impl.MaxCell+1), cells(0, 0, 0, 0, 0)} {
		wantTrue(t, "equal ones", impl.SameCells(c, cells(c.Wide, c.Deep, c.Salt, append([]int64{}, c.Counts...)...)))
	}
	wantTrue(t, "nil and empty ones", impl.SameCells(impl.Cells{Wide: 2}, impl.Cells{Wide: 2, Counts: []int64{}}))
	others := []impl.Cells{{}, cells(4, 1, 5, 1, 2, 3, 4), cells(3, 2, 5, 1, 2, 3, 4), cells(2, 3, 5, 1, 2, 3, 4), cells(2, 2, 6, 1, 2, 3, 4), cells(2, 2, 5, 1, 2, 3), cells(2, 2, 5, 1, 2, 3, 4, 0), cells(2, 2, 5, 0, 2, 3, 4), cells(2, 2, 5, 1, 2, 3, 5), cells(2, 2, 5)}
	for _, b := range others {
		wantFalse(t, "SameCells of "+shown(b), impl.SameCells(a, b) || impl.SameCells(b, a))
	}
}

func TestNewCells(t *testing.T) {
	for _, row := range [][3]int64{{2, 1, 0}, {64, 6, greatestKey}, {2, 6, 1}, {64, 1, 7}, {5, 3, 9}} {
		wantShown(t, "NewCells", wrapped(impl.NewCells(row[0], row[1], row[2])), evenCells(row[0], row[1], row[2], 0), true)
	}
	for _, row := range [][3]int64{{1, 1, 0}, {65, 1, 0}, {0, 1, 0}, {-2, 1, 0}, {2, 0, 0}, {2, 7, 0}, {2, -1, 0}, {2, 1, -1}, {2, 1, greatestKey + 1}, {math.MaxInt64, 6, 0}, {2, math.MinInt64, 0}} {
		wantShown(t, "NewCells", wrapped(impl.NewCells(row[0], row[1], row[2])), impl.Cells{}, false)
	}
}

func TestPlacesOf(t *testing.T) {
	rows := []struct {
		wide, deep, salt, key int64
		want                  []int64
	}{{2, 1, 0, 0, []int64{1}}, {4, 2, 5, 7, []int64{3, 4}}, {64, 6, greatestKey, 0, []int64{8, 120, 177, 249, 275, 356}}, {64, 6, greatestKey - 2, greatestKey, []int64{30, 70, 185, 220, 300, 340}}, {63, 6, greatestKey - 5, 123456789, []int64{33, 78, 149, 208, 269, 372}}, {2, 6, 7, 1, []int64{0, 3, 4, 6, 9, 10}}, {10, 3, 4, 9, []int64{3, 19, 29}}, {64, 1, 9, 1 << 31, []int64{51}}}
	for _, row := range rows {
		wantShown(t, "PlacesOf", wrapped(impl.PlacesOf(evenCells(row.wide, row.deep, row.salt, 0), row.key)), row.want, true)
	}
	for _, key := range []int64{-1, greatestKey + 1, math.MaxInt64, math.MinInt64} {
		wantShown(t, "PlacesOf no key", wrapped(impl.PlacesOf(evenCells(4, 2, 5, 0), key)), []int64{}, false)
	}
}

func TestPutCells(t *testing.T) {
	rows := []struct {
		wide, deep, salt, key, by int64
		want                      []int64
	}{{4, 2, 5, 7, 2, []int64{0, 0, 0, 2, 2, 0, 0, 0}}, {2, 1, 0, 0, -7, []int64{0, -7}}, {3, 6, greatestKey - 2, greatestKey, 1000000, []int64{0, 1000000, 0, 1000000, 0, 0, 0, 0, 1000000, 0, 1000000, 0, 0, 0, 1000000, 1000000, 0, 0}}, {5, 3, greatestKey - 1000, 1 << 31, -1000000, []int64{0, 0, 0, 0, -1000000, 0, 0, -1000000, 0, 0, -1000000, 0, 0, 0, 0}}, {2, 6, greatestKey - 1002, 123456789, 3, []int64{0, 3, 0, 3, 3, 0, 3, 0, 0, 3, 3, 0}}, {4, 2, 5, 7, 0, []int64{0, 0, 0, 0, 0, 0, 0, 0}}}
	for _, row := range rows {
		wantShown(t, "PutCells", wrapped(impl.PutCells(evenCells(row.wide, row.deep, row.salt, 0), row.key, row.by)), cells(row.wide, row.deep, row.salt, row.want...), true)
	}
	for _, by := range []int64{1000001, -1000001, math.MaxInt64, math.MinInt64} {
		wantShown(t, "PutCells by "+impl.Decimal(by), wrapped(impl.PutCells(evenCells(4, 2, 5, 0), 7, by)), impl.Cells{}, false)
	}
}

func TestPutCellsAtLimits(t *testing.T) {
	high, low := cells(4, 2, 5, 0, 0, 0, 1, impl.MaxCell-5, 0, 0, 0), cells(4, 2, 5, 0, 0, 0, -impl.MaxCell+5, 1, 0, 0, 0)
	wantShown(t, "up to the limit", wrapped(impl.PutCells(high, 7, 5)), cells(4, 2, 5, 0, 0, 0, 6, impl.MaxCell, 0, 0, 0), true)
	wantShown(t, "above the limit", wrapped(impl.PutCells(high, 7, 6)), impl.Cells{}, false)
	wantShown(t, "down to the limit", wrapped(impl.PutCells(low, 7, -5)), cells(4, 2, 5, 0, 0, 0, -impl.MaxCell, -4, 0, 0, 0), true)
	wantShown(t, "below the limit", wrapped(impl.PutCells(low, 7, -6)), impl.Cells{}, false)
	full := evenCells(2, 1, 0, impl.MaxCell)
	wantShown(t, "nothing to full cells", wrapped(impl.PutCells(full, 0, 0)), full, true)
	wantShown(t, "one to full cells", wrapped(impl.PutCells(full, 0, 1)), impl.Cells{}, false)
}

// seriesOf puts a series of 100 keys by numbers from 0, or from -1000, to 1000.
func seriesOf(t *testing.T, c impl.Cells, negative bool, put func(c impl.Cells, key, by int64) (impl.Cells, bool)) impl.Cells {
	t.Helper()
	for i := range int64(100) {
		by := i * 7919 % 1001
		if negative {
			by = i*7919%2001 - 1000
		}
		next, ok := put(c, i*i*66123+i, by)
		wantTrue(t, "a series", ok)
		c = next
	}
	return c
}

func TestSeriesOfCells(t *testing.T) {
	rows := []struct {
		empty         impl.Cells
		put, careful  []int64
		total, square int64
	}{
		{evenCells(2, 1, 0, 0), []int64{-2956, 4467}, []int64{21367, 29574}, 50941, 1331170165},
		{evenCells(5, 3, greatestKey-1, 0), []int64{5119, -126, -475, -775, -2232, -3510, 1646, 5905, 1255, -3785, -2924, -427, 1091, 4776, -1005}, []int64{6281, 6130, 4995, 5478, 6103, 6103, 5707, 6130, 6281, 5767, 5796, 6130, 6281, 5484, 5905}, 28987, 534311539},
		{evenCells(7, 2, 5, 0), []int64{3002, -3375, 1677, 300, -737, -3423, 4067, 1083, 471, 1863, -2650, -1084, 408, 1420}, []int64{4191, 4968, 4262, 5996, 5683, 5749, 4263, 4883, 5950, 4263, 4191, 5996, 3949, 4262}, 35112, 382655381},
	}
	for _, row := range rows {
		mixed, more, careful := seriesOf(t, row.empty, true, impl.PutCells), seriesOf(t, row.empty, false, impl.PutCells), seriesOf(t, row.empty, false, impl.PutCareful)
		wantShown(t, "PutCells", shown(mixed.Counts), row.put)
		wantShown(t, "PutCareful", shown(careful.Counts), row.careful)
		wantShown(t, "CellsTotal", wrapped(impl.CellsTotal(mixed)), 1511, true)
		wantShown(t, "CellsTotal", wrapped(impl.CellsTotal(more)), 50941, true)
		wantShown(t, "CellsTotal of the first row alone", wrapped(impl.CellsTotal(careful)), row.total, true)
		wantShown(t, "CellsDot", wrapped(impl.CellsDot(more, more)), row.square, true)
	}
}

func TestPutCareful(t *testing.T) {
	upTo8 := []int64{0, 1, 2, 3, 4, 5, 6, 7}
	rows := []struct {
		c       impl.Cells
		key, by int64
		want    []int64
	}{
		{cells(4, 2, 5, upTo8...), 7, 0, upTo8},
		{cells(4, 2, 5, upTo8...), 7, 1, []int64{0, 1, 2, 4, 4, 5, 6, 7}},
		{cells(4, 2, 5, upTo8...), 7, 2, []int64{0, 1, 2, 5, 5, 5, 6, 7}},
		{cells(4, 2, 5, 9, 9, 9, -3, -5, 9, 9, 9), 7, 1, []int64{9, 9, 9, -3, -4, 9, 9, 9}},
		{cells(4, 2, 5, 9, 9, 9, -3, -5, 9, 9, 9), 7, 4, []int64{9, 9, 9, -1, -1, 9, 9, 9}},
		{cells(3, 6, greatestKey-2, upTo(18)...), greatestKey, 10, []int64{0, 11, 2, 11, 4, 5, 6, 7, 11, 9, 11, 11, 12, 13, 14, 15, 16, 17}},
		{cells(2, 1, 0, 5, 5), 0, 1000000, []int64{5, 1000005}},
		{cells(4, 2, 5, 0, 0, 0, impl.MaxCell, 4, 0, 0, 0), 7, 5, []int64{0, 0, 0, impl.MaxCell, 9, 0, 0, 0}},
		{cells(4, 2, 5, 0, 0, 0, impl.MaxCell, impl.MaxCell, 0, 0, 0), 7, 0, []int64{0, 0, 0, impl.MaxCell, impl.MaxCell, 0, 0, 0}},
		{cells(4, 2, 5, 0, 0, 0, impl.MaxCell, impl.MaxCell-1, 0, 0, 0), 7, 1, []int64{0, 0, 0, impl.MaxCell, impl.MaxCell, 0, 0, 0}},
	}
	for _, row := range rows {
		wantShown(t, "PutCareful", wrapped(impl.PutCareful(row.c, row.key, row.by)), cells(row.c.Wide, row.c.Deep, row.c.Salt, row.want...), true)
	}
	wantShown(t, "above the limit", wrapped(impl.PutCareful(cells(4, 2, 5, 0, 0, 0, impl.MaxCell, impl.MaxCell-1, 0, 0, 0), 7, 2)), impl.Cells{}, false)
	for _, by := range []int64{-1, 1000001, math.MaxInt64, math.MinInt64} {
		wantShown(t, "PutCareful by "+impl.Decimal(by), wrapped(impl.PutCareful(evenCells(4, 2, 5, 0), 7, by)), impl.Cells{}, false)
	}
}

func TestCellsAt(t *testing.T) {
	wantShown(t, "the first row", wrapped(impl.CellsAt(cells(4, 2, 5, 0, 0, 0, 3, 9, 0, 0, 0), 7)), 3, true)
	wantShown(t, "the last row", wrapped(impl.CellsAt(cells(4, 2, 5, 0, 0, 0, 9, -3, 0, 0, 0), 7)), -3, true)
	wantShown(t, "one row", wrapped(impl.CellsAt(cells(2, 1, 0, 4, 8), 0)), 8, true)
	wantShown(t, "the least of six rows", wrapped(impl.CellsAt(cells(3, 6, greatestKey-2, 0, 9, 0, 8, 0, 0, 0, 0, 5, 0, 7, 0, 0, 0, 4, 6, 0, 0), greatestKey)), 4, true)
	wantShown(t, "full cells", wrapped(impl.CellsAt(evenCells(64, 6, 3, impl.MaxCell), 0)), impl.MaxCell, true)
}

func TestCellsTotal(t *testing.T) {
	wantShown(t, "full cells", wrapped(impl.CellsTotal(evenCells(64, 6, 3, impl.MaxCell))), 64000000000000, true)
	wantShown(t, "the least cells", wrapped(impl.CellsTotal(evenCells(64, 1, 3, -impl.MaxCell))), -64000000000000, true)
	wantShown(t, "one row", wrapped(impl.CellsTotal(cells(3, 1, 3, 1, -9, 4))), -4, true)
	wantShown(t, "the first row", wrapped(impl.CellsTotal(cells(3, 2, 3, 1, 2, 4, 100, 100, 100))), 7, true)
}

func TestMergeCells(t *testing.T) {
	a, b := cells(4, 2, 5, 1, -2, 3, 4, 5, 6, -7, 8), cells(4, 2, 5, 10, 20, 30, 40, 50, 60, 70, 80)
	wantShown(t, "MergeCells", wrapped(impl.MergeCells(a, b)), cells(4, 2, 5, 11, 18, 33, 44, 55, 66, 63, 88), true)
	wantShown(t, "up to the limit", wrapped(impl.MergeCells(cells(2, 1, 9, impl.MaxCell-1, 3), cells(2, 1, 9, 1, 4))), cells(2, 1, 9, impl.MaxCell, 7), true)
	wantShown(t, "above the limit", wrapped(impl.MergeCells(cells(2, 1, 9, impl.MaxCell-1, 3), cells(2, 1, 9, 2, 4))), impl.Cells{}, false)
	wantShown(t, "below the limit", wrapped(impl.MergeCells(evenCells(64, 6, 9, -impl.MaxCell), cells(64, 6, 9, append(make([]int64, 383), -1)...))), impl.Cells{}, false)
	full, least := evenCells(64, 6, 9, impl.MaxCell), evenCells(64, 6, 9, -impl.MaxCell)
	wantShown(t, "opposite cells", wrapped(impl.MergeCells(full, least)), evenCells(64, 6, 9, 0), true)
	for _, other := range []impl.Cells{evenCells(4, 2, 6, 0), evenCells(2, 4, 5, 0), evenCells(4, 3, 5, 0), evenCells(8, 1, 5, 0), evenCells(5, 2, 5, 0)} {
		wantShown(t, "other cells", wrapped(impl.MergeCells(a, other)), impl.Cells{}, false)
		wantShown(t, "other cells", wrapped(impl.CellsDot(other, a)), 0, false)
	}
}

func TestCellsDot(t *testing.T) {
	a, b := cells(4, 2, 5, 1, -2, 3, 4, 5, 6, -7, 8), cells(4, 2, 5, 10, 20, 30, 40, 50, 60, 70, 80)
	wantShown(t, "the first row", wrapped(impl.CellsDot(a, b)), 220, true)
	wantShown(t, "the last row", wrapped(impl.CellsDot(cells(2, 3, 5, 9, 9, 9, 9, 3, 4), cells(2, 3, 5, 1, 1, 1, 1, 2, -5))), -14, true)
	wantShown(t, "one row", wrapped(impl.CellsDot(cells(3, 1, 5, 1, 2, 3), cells(3, 1, 5, 4, 5, 6))), 32, true)
	most := evenCells(64, 6, 9, 1000000)
	wantShown(t, "the greatest counts", wrapped(impl.CellsDot(most, most)), 64000000000000, true)
	wantShown(t, "the least counts", wrapped(impl.CellsDot(most, evenCells(64, 6, 9, -1000000))), -64000000000000, true)
	for _, count := range []int64{1000001, -1000001, impl.MaxCell} {
		above := cells(2, 2, 9, 0, 0, 0, count)
		wantShown(t, "a first count above", wrapped(impl.CellsDot(above, evenCells(2, 2, 9, 0))), 0, false)
		wantShown(t, "a second count above", wrapped(impl.CellsDot(evenCells(2, 2, 9, 0), above)), 0, false)
	}
}

func TestCellsShared(t *testing.T) {
	lists := [][]int64{{0, 1, 2}, {7, 7, greatestKey}, nil, {5}}
	wantShown(t, "four lists", wrapped(impl.CellsShared(5, 3, greatestKey-1, lists, 3)), cells(5, 3, greatestKey-1, 1, 0, 1, 2, 3, 1, 4, 0, 0, 2, 0, 3, 3, 0, 1), true)
	wantShown(t, "one empty list", wrapped(impl.CellsShared(2, 1, 0, [][]int64{{}}, 8)), cells(2, 1, 0, 0, 0), true)
	zeros := [][]int64{}
	for range 16 {
		zeros = append(zeros, repeated(int64(0), 256))
	}
	wantShown(t, "16 lists of 256 equal keys", wrapped(impl.CellsShared(2, 1, 0, zeros, 8)), cells(2, 1, 0, 0, 4096), true)
	none := impl.Cells{}
	wantShown(t, "17 lists", wrapped(impl.CellsShared(2, 1, 0, append(zeros, nil), 8)), none, false)
	wantShown(t, "nil lists", wrapped(impl.CellsShared(2, 1, 0, nil, 8)), none, false)
	wantShown(t, "no lists", wrapped(impl.CellsShared(2, 1, 0, [][]int64{}, 1)), none, false)
	for _, workers := range []int64{0, -1, 9, math.MaxInt64, math.MinInt64} {
		wantShown(t, "workers "+impl.Decimal(workers), wrapped(impl.CellsShared(2, 1, 0, lists, workers)), none, false)
	}
	for _, list := range [][]int64{{-1}, {0, greatestKey + 1}, upTo(257)} {
		wantShown(t, "no first list of keys", wrapped(impl.CellsShared(2, 1, 0, [][]int64{list, {5}}, 1)), none, false)
		wantShown(t, "no last list of keys", wrapped(impl.CellsShared(2, 1, 0, [][]int64{{5}, list}, 8)), none, false)
	}
	for _, row := range [][3]int64{{1, 1, 0}, {65, 1, 0}, {2, 0, 0}, {2, 7, 0}, {2, 1, -1}, {2, 1, greatestKey + 1}} {
		wantShown(t, "no cells", wrapped(impl.CellsShared(row[0], row[1], row[2], lists, 2)), none, false)
	}
}
