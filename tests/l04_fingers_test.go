package tests

import (
	"math"
	"slices"
	"testing"

	"loop.example/g01347/impl"
)

// fingers are the fingers with these cells, made without the program.
func fingers(salt int64, list ...int64) impl.Fingers {
	return impl.Fingers{Salt: salt, Cells: list}
}

// spreadFingers have n cells, all different from 0 but that with the index empty.
func spreadFingers(salt int64, n, by, first, empty int) impl.Fingers {
	f := fingers(salt)
	for i := range n {
		f.Cells = append(f.Cells, int64(1+(i*by+first)%255))
	}
	f.Cells[empty] = 0
	return f
}

// weighed tells a long list by a sum in which each number has a weight of its own.
func weighed(list []int64) int64 {
	sum := int64(0)
	for i, n := range list {
		sum += int64(i+1) * n
	}
	return sum
}

// seriesKey is the key with the index i of a series.
func seriesKey(i int64) int64 {
	return (i*i*66123 + i) % (greatestKey + 1)
}

// invalidFingers pass each limit of fingers by one, and far.
func invalidFingers() map[string]impl.Fingers {
	return map[string]impl.Fingers{
		"the zero struct":  {},
		"a salt below":     fingers(-1, 0, 0),
		"a salt above":     fingers(greatestKey+1, 0, 0),
		"nil cells":        fingers(3),
		"no cells":         fingers(3, []int64{}...),
		"one cell":         fingers(3, 0),
		"three cells":      fingers(3, 0, 0, 0),
		"six cells":        fingers(3, make([]int64, 6)...),
		"255 cells":        fingers(3, make([]int64, 255)...),
		"257 cells":        fingers(3, make([]int64, 257)...),
		"512 cells":        fingers(3, make([]int64, 512)...),
		"a first cell":     fingers(3, -1, 0),
		"a last cell":      fingers(3, 0, 256),
		"the least number": fingers(math.MinInt64, 0, math.MinInt64),
		"the most number":  fingers(math.MaxInt64, math.MaxInt64, 0),
		"a cell elsewhere": fingers(3, append(make([]int64, 255), 256)...),
	}
}

func TestValidFingers(t *testing.T) {
	for n := 2; n <= 256; n *= 2 {
		wantTrue(t, "ValidFingers", impl.ValidFingers(fingers(0, make([]int64, n)...)))
		wantTrue(t, "ValidFingers", impl.ValidFingers(fingers(greatestKey, repeated(int64(255), n)...)))
	}
	for what, f := range invalidFingers() {
		wantFalse(t, "ValidFingers with "+what, impl.ValidFingers(f))
	}
}

func TestPutFinger(t *testing.T) {
	rows := []struct {
		n         int
		salt      int64
		put, fail int64
		want      []int64
	}{
		{2, 3, 2, 264494, []int64{80, 152}},
		{4, 3, 4, 1057972, []int64{152, 36, 80, 16}},
		{4, greatestKey, 4, 1057972, []int64{34, 115, 137, 98}},
		{8, greatestKey - 1, 8, 4231880, []int64{195, 114, 122, 6, 23, 19, 177, 247}},
		{16, 7, 16, 16927504, []int64{232, 127, 149, 123, 76, 130, 52, 73, 131, 77, 208, 48, 239, 114, 189, 154}},
		{32, greatestKey, 29, 55609472, []int64{50, 247, 215, 23, 159, 133, 31, 236, 131, 0, 254, 0, 98, 159, 78, 206, 161, 23, 90, 87, 54, 193, 115, 122, 137, 143, 32, 68, 34, 0, 76, 197}},
	}
	for _, row := range rows {
		f := fingers(row.salt, make([]int64, row.n)...)
		for i := range row.put {
			next, ok := impl.PutFinger(f, seriesKey(i))
			wantTrue(t, "PutFinger", ok)
			f = next
		}
		wantShown(t, "a series", shown(f), fingers(row.salt, row.want...))
		wantShown(t, "the next one", wrapped(impl.PutFinger(f, row.fail)), impl.Fingers{}, false)
	}
	for _, key := range []int64{-1, greatestKey + 1, math.MaxInt64, math.MinInt64} {
		wantShown(t, "PutFinger no key", wrapped(impl.PutFinger(fingers(3, 0, 0), key)), impl.Fingers{}, false)
		wantShown(t, "InFingers no key", wrapped(impl.InFingers(fingers(3, 0, 0), key)), false, false)
		wantShown(t, "OutFinger no key", wrapped(impl.OutFinger(fingers(3, 0, 0), key)), impl.Fingers{}, false)
	}
}

func TestPutFingerIntoTheGreatestNumberOfCells(t *testing.T) {
	f := fingers(greatestKey, make([]int64, 256)...)
	for i := range int64(199) {
		next, ok := impl.PutFinger(f, seriesKey(i))
		wantTrue(t, "PutFinger", ok)
		f = next
		if i == 127 {
			wantShown(t, "128 keys", shown(weighed(f.Cells)), 2257441)
		}
	}
	wantShown(t, "199 keys", shown(weighed(f.Cells)), 3398494)
	wantShown(t, "the next one", wrapped(impl.PutFinger(f, seriesKey(199))), impl.Fingers{}, false)
}

// The key 0 has the finger 80, the houses 2 and 0 of four ones with the salt 3; the key 5 has the finger 138, and the house 0 alone.
func TestPutFingerTakesTheFirstCell(t *testing.T) {
	rows := []struct {
		key          int64
		before, want []int64
	}{
		{0, []int64{0, 0, 0, 0, 0, 0, 0, 0}, []int64{0, 0, 0, 0, 80, 0, 0, 0}},
		{0, []int64{0, 0, 0, 0, 80, 0, 0, 0}, []int64{0, 0, 0, 0, 80, 80, 0, 0}},
		{0, []int64{0, 0, 0, 0, 80, 80, 0, 0}, []int64{80, 0, 0, 0, 80, 80, 0, 0}},
		{0, []int64{9, 0, 0, 0, 9, 9, 0, 0}, []int64{9, 80, 0, 0, 9, 9, 0, 0}},
		{0, []int64{0, 0, 0, 0, 9, 0, 0, 0}, []int64{0, 0, 0, 0, 9, 80, 0, 0}},
		{0, []int64{11, 12, 13, 0, 21, 22, 33, 34}, []int64{11, 12, 13, 21, 80, 22, 33, 34}},
		{0, []int64{11, 12, 0, 14, 21, 22, 0, 34}, []int64{11, 12, 21, 14, 80, 22, 0, 34}},
		{0, []int64{11, 12, 13, 14, 21, 22, 0, 0}, []int64{11, 12, 13, 21, 80, 22, 14, 0}},
		{5, []int64{0, 0, 0, 0, 0, 0, 0, 0}, []int64{138, 0, 0, 0, 0, 0, 0, 0}},
		{5, []int64{9, 8, 7, 6, 5, 4, 3, 0}, []int64{138, 8, 7, 6, 5, 4, 3, 9}},
	}
	for _, row := range rows {
		wantShown(t, "PutFinger", wrapped(impl.PutFinger(fingers(3, row.before...), row.key)), fingers(3, row.want...), true)
	}
}

func TestPutFingerFails(t *testing.T) {
	for _, n := range []int{2, 4, 8, 64, 256} {
		full := fingers(3, repeated(int64(9), n)...)
		for _, key := range []int64{0, 5, greatestKey} {
			wantShown(t, "PutFinger without room", wrapped(impl.PutFinger(full, key)), impl.Fingers{}, false)
		}
	}
	wantShown(t, "room that is not met", wrapped(impl.PutFinger(fingers(3, 1, 2, 3, 4, 5, 6, 7, 0), 0)), impl.Fingers{}, false)
	wantShown(t, "room that is not met", wrapped(impl.PutFinger(fingers(3, 9, 8, 7, 6, 5, 4, 3, 0), 10)), impl.Fingers{}, false)
}

func TestPutFingerAtTheGreatestNumberOfKicks(t *testing.T) {
	rows := []struct {
		f            impl.Fingers
		key          int64
		empty        int
		moved, total int64
	}{
		{spreadFingers(greatestKey-1, 128, 65, 81, 49), 878, 49, 237, 1063043},
		{spreadFingers(greatestKey, 256, 91, 6, 45), 421, 45, 199, 4217140},
		{spreadFingers(greatestKey, 256, 105, 131, 49), 401, 49, 222, 4320934},
	}
	for _, row := range rows {
		got, ok := impl.PutFinger(row.f, row.key)
		if !ok || len(got.Cells) != len(row.f.Cells) {
			t.Fatalf("PutFinger with at most 64 kicks: got %v, %v", got, ok)
		}
		wantShown(t, "64 kicks", shown(got.Cells[row.empty], weighed(got.Cells)), row.moved, row.total)
	}
	for _, row := range []struct {
		f   impl.Fingers
		key int64
	}{{spreadFingers(7, 128, 89, 243, 44), 359}, {spreadFingers(7, 256, 43, 57, 97), 90}, {spreadFingers(7, 256, 11, 51, 150), 670}} {
		wantShown(t, "65 kicks", wrapped(impl.PutFinger(row.f, row.key)), impl.Fingers{}, false)
	}
}

func TestInFingersAndOutFinger(t *testing.T) {
	for cell, in := range []bool{true, true, false, false, true, true, false, false} {
		f := fingers(3, 7, 7, 7, 7, 7, 7, 7, 7)
		f.Cells[cell] = 80
		wantShown(t, "InFingers", wrapped(impl.InFingers(f, 0)), in, true)
		if !in {
			wantShown(t, "OutFinger of another house", wrapped(impl.OutFinger(f, 0)), impl.Fingers{}, false)
			continue
		}
		without := slices.Clone(f.Cells)
		without[cell] = 0
		wantShown(t, "OutFinger", wrapped(impl.OutFinger(f, 0)), fingers(3, without...), true)
	}
	rows := [][2][]int64{
		{{80, 80, 80, 80, 80, 80, 80, 80}, {80, 80, 80, 80, 0, 80, 80, 80}},
		{{80, 80, 80, 80, 0, 80, 80, 80}, {80, 80, 80, 80, 0, 0, 80, 80}},
		{{80, 80, 80, 80, 1, 2, 80, 80}, {0, 80, 80, 80, 1, 2, 80, 80}},
		{{0, 80, 80, 80, 0, 0, 80, 80}, {0, 0, 80, 80, 0, 0, 80, 80}},
	}
	for _, row := range rows {
		wantShown(t, "OutFinger of several", wrapped(impl.OutFinger(fingers(3, row[0]...), 0)), fingers(3, row[1]...), true)
	}
	for n := 2; n <= 256; n *= 2 {
		empty := fingers(3, make([]int64, n)...)
		wantShown(t, "InFingers of empty ones", wrapped(impl.InFingers(empty, 0)), false, true)
		wantShown(t, "OutFinger of empty ones", wrapped(impl.OutFinger(empty, 0)), impl.Fingers{}, false)
		one, _ := impl.PutFinger(empty, 0)
		wantShown(t, "InFingers of one", wrapped(impl.InFingers(one, 0)), true, true)
		wantShown(t, "OutFinger of one", wrapped(impl.OutFinger(one, 0)), empty, true)
		two, _ := impl.PutFinger(one, 0)
		left, ok := impl.OutFinger(two, 0)
		wantTrue(t, "OutFinger of both", ok)
		wantShown(t, "InFingers of the other one", wrapped(impl.InFingers(left, 0)), true, true)
		wantShown(t, "OutFinger of the other one", wrapped(impl.OutFinger(left, 0)), empty, true)
	}
	wantShown(t, "the finger 1", wrapped(impl.PutFinger(fingers(7, 0, 0), 269)), fingers(7, 1, 0), true)
	wantShown(t, "the finger 255", wrapped(impl.PutFinger(fingers(7, 0, 0), 241)), fingers(7, 255, 0), true)
}
