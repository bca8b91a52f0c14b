package tests

import (
	"math"
	"slices"
	"testing"

	"loop.example/g01347/impl"
)

// zeros are the zeros with these cells, made without the program.
func zeros(salt int64, list ...int64) impl.Zeros {
	return impl.Zeros{Salt: salt, Cells: list}
}

// told are n cells, each of which is told by its index.
func told(n int, tell func(i int64) int64) []int64 {
	list := upTo(n)
	for i := range list {
		list[i] = tell(int64(i))
	}
	return list
}

// invalidZeros pass each limit of zeros by one, and far.
func invalidZeros() map[string]impl.Zeros {
	return map[string]impl.Zeros{
		"the zero struct":  {},
		"a salt below":     zeros(-1, make([]int64, 16)...),
		"a salt above":     zeros(greatestKey+1, make([]int64, 16)...),
		"nil cells":        zeros(3),
		"no cells":         zeros(3, []int64{}...),
		"8 cells":          zeros(3, make([]int64, 8)...),
		"15 cells":         zeros(3, make([]int64, 15)...),
		"17 cells":         zeros(3, make([]int64, 17)...),
		"48 cells":         zeros(3, make([]int64, 48)...),
		"255 cells":        zeros(3, make([]int64, 255)...),
		"257 cells":        zeros(3, make([]int64, 257)...),
		"512 cells":        zeros(3, make([]int64, 512)...),
		"a first cell":     zeros(3, append([]int64{-1}, make([]int64, 15)...)...),
		"a last cell":      zeros(3, append(make([]int64, 15), 34)...),
		"the least number": zeros(3, append(make([]int64, 31), math.MinInt64)...),
		"the most number":  zeros(3, append([]int64{math.MaxInt64}, make([]int64, 255)...)...),
	}
}

func TestValidZeros(t *testing.T) {
	for n := 16; n <= 256; n *= 2 {
		wantTrue(t, "ValidZeros", impl.ValidZeros(zeros(0, make([]int64, n)...)))
		wantTrue(t, "ValidZeros", impl.ValidZeros(zeros(greatestKey, repeated(int64(33), n)...)))
	}
	for what, z := range invalidZeros() {
		wantFalse(t, "ValidZeros with "+what, impl.ValidZeros(z))
	}
}

func TestPutZeros(t *testing.T) {
	rows := []struct {
		n                    int
		salt, key, cell, run int64
	}{
		{16, 3, 8, 1, 1},
		{16, greatestKey, 0, 2, 1},
		{256, greatestKey, greatestKey, 228, 2},
		{64, greatestKey - 1, 123456789, 18, 1},
		{128, 0, 77, 49, 2},
		{32, 9, 1 << 31, 25, 1},
		// These have the hashes 0, 1 and the greatest one with the next salt.
		{16, 1221656793, 3601115341, 11, 33},
		{16, 3778754444, 3731721544, 11, 32},
		{16, 3348288899, 1008429331, 1, 1},
	}
	for _, row := range rows {
		for _, before := range []int64{0, 1, 2, 31, 32, 33} {
			list := repeated(before, row.n)
			want := slices.Clone(list)
			want[row.cell] = max(before, row.run)
			wantShown(t, "PutZeros", wrapped(impl.PutZeros(zeros(row.salt, list...), row.key)), zeros(row.salt, want...), true)
		}
	}
	for _, key := range []int64{-1, greatestKey + 1, math.MaxInt64, math.MinInt64} {
		wantShown(t, "PutZeros no key", wrapped(impl.PutZeros(zeros(3, make([]int64, 16)...), key)), impl.Zeros{}, false)
	}
}

func TestSeriesOfZeros(t *testing.T) {
	rows := []struct {
		n          int
		salt, keys int64
		weighed    int64
		count      uint32
	}{
		{16, 7, 10, weighed([]int64{0, 0, 1, 0, 2, 0, 0, 1, 2, 4, 0, 1, 1, 0, 1, 0}), 0x41317218},
		{16, 7, 100, weighed([]int64{4, 8, 4, 2, 5, 3, 3, 3, 2, 4, 7, 3, 1, 3, 5, 7}), 0x42b69e00},
		{32, greatestKey, 10, weighed([]int64{0, 0, 1, 3, 1, 0, 0, 0, 0, 2, 0, 0, 1, 0, 1, 0, 0, 1, 0, 3, 1, 0, 0, 0, 0, 0, 0, 0, 0, 0, 0, 2}), 0x413fd7d3},
		{32, greatestKey, 100, weighed([]int64{1, 5, 4, 3, 7, 2, 2, 1, 3, 2, 1, 1, 1, 6, 1, 1, 3, 1, 5, 3, 5, 3, 1, 6, 3, 4, 4, 0, 2, 1, 1, 2}), 0x42a20440},
		{256, greatestKey, 10, 1815, 0x4123356d},
		{256, greatestKey, 100, 19217, 0x42c2c2ab},
		{256, greatestKey, 256, 47652, 0x4385ce9d},
	}
	for _, row := range rows {
		z := zeros(row.salt, make([]int64, row.n)...)
		for i := range row.keys {
			next, ok := impl.PutZeros(z, seriesKey(i))
			wantTrue(t, "PutZeros", ok)
			z = next
		}
		wantShown(t, "a series", shown(z.Salt, len(z.Cells), weighed(z.Cells)), row.salt, row.n, row.weighed)
		wantShown(t, "CountOfZeros", wrapped(impl.CountOfZeros(z)), number(row.count), true)
	}
}

func TestJoinZeros(t *testing.T) {
	a := told(16, func(i int64) int64 { return i })
	b := told(16, func(i int64) int64 { return 2 * ((i * 5) % 16) })
	want := []int64{0, 10, 20, 30, 8, 18, 28, 7, 16, 26, 10, 14, 24, 13, 14, 22}
	wantShown(t, "JoinZeros", wrapped(impl.JoinZeros(zeros(greatestKey, a...), zeros(greatestKey, b...))), zeros(greatestKey, want...), true)
	wantShown(t, "JoinZeros", wrapped(impl.JoinZeros(zeros(3, b...), zeros(3, a...))), zeros(3, want...), true)
	empty, full := zeros(3, make([]int64, 256)...), zeros(3, repeated(int64(33), 256)...)
	wantShown(t, "JoinZeros of full ones", wrapped(impl.JoinZeros(empty, full)), full, true)
	wantShown(t, "JoinZeros of empty ones", wrapped(impl.JoinZeros(empty, empty)), empty, true)
	for _, other := range []impl.Zeros{zeros(4, a...), zeros(2, a...), zeros(3, make([]int64, 32)...), zeros(3, make([]int64, 256)...)} {
		wantShown(t, "JoinZeros with others", wrapped(impl.JoinZeros(zeros(3, a...), other)), impl.Zeros{}, false)
		wantShown(t, "JoinZeros with others", wrapped(impl.JoinZeros(other, zeros(3, a...))), impl.Zeros{}, false)
	}
}

func TestCountOfZeros(t *testing.T) {
	rows := []struct {
		cells []int64
		want  uint32
	}{
		{make([]int64, 16), plusZero},
		{make([]int64, 256), plusZero},
		{append([]int64{1}, make([]int64, 15)...), 0x3f842ccd},
		{append(make([]int64, 255), 33), 0x3f8040aa},
		{repeated(int64(1), 16), 0x41acfcab},
		{repeated(int64(1), 256), 0x43b7e0b6},
		{repeated(int64(33), 16), 0x51acfcab},
		{repeated(int64(33), 256), 0x53b7e0b6},
		{append([]int64{0}, repeated(int64(33), 15)...), 0x432cfcab},
		{told(16, func(i int64) int64 { return i * 7 % 34 }), 0x42b72c5d},
		{told(32, func(i int64) int64 { return i * 5 % 3 }), 0x4208af01},
		{told(64, func(i int64) int64 { return i * i % 9 }), 0x4288af01},
		{told(64, func(i int64) int64 { return 1 + i*i%9 }), 0x4341cc5d},
		{told(128, func(i int64) int64 { return 1 + i*11%7 }), 0x441f4e7e},
		{told(256, func(i int64) int64 { return i * 5 % 6 }), 0x43e4595e},
		{told(256, func(i int64) int64 { return i % 34 }), 0x4537e0bc},
	}
	for _, row := range rows {
		wantShown(t, "CountOfZeros", wrapped(impl.CountOfZeros(zeros(9, row.cells...))), number(row.want), true)
	}
}

func TestCountOfZerosRoundsSumsInOrder(t *testing.T) {
	few, many := repeated(int64(25), 15), repeated(int64(25), 255)
	wantShown(t, "the greatest one first", wrapped(impl.CountOfZeros(zeros(9, append([]int64{0}, few...)...))), number(0x432cfcab), true)
	wantShown(t, "the greatest one last", wrapped(impl.CountOfZeros(zeros(9, append(few, 0)...))), number(0x432cfca6), true)
	wantShown(t, "the greatest one first", wrapped(impl.CountOfZeros(zeros(9, append([]int64{1}, many...)...))), number(0x47b7e0b6), true)
	wantShown(t, "the greatest one last", wrapped(impl.CountOfZeros(zeros(9, append(many, 1)...))), number(0x47b7dffe), true)
}

// Sums that are made so that the count is 2.5 times the number of cells, or next to this.
func TestCountOfZerosAtItsTurn(t *testing.T) {
	rows := []struct {
		cells []int64
		want  uint32
	}{
		{[]int64{0, 0, 0, 0, 2, 4, 7, 8, 12, 13, 14, 16, 17, 18, 20, 21}, 0x42200001},
		{[]int64{0, 0, 0, 0, 3, 3, 4, 7, 8, 12, 13, 14, 16, 17, 18, 19}, 0x41b17218},
		{[]int64{0, 0, 0, 0, 2, 4, 7, 8, 12, 13, 14, 16, 17, 18, 19, 21}, 0x41b17218},
		{[]int64{0, 0, 0, 0, 0, 0, 0, 0, 4, 4, 4, 4, 4, 4, 4, 4, 4, 4, 4, 4, 4, 4, 5, 6, 7, 10, 11, 12, 14, 16, 17, 20}, 0x42a00001},
		{[]int64{0, 0, 0, 0, 0, 0, 0, 0, 4, 4, 4, 4, 4, 4, 4, 4, 4, 4, 4, 4, 4, 4, 5, 6, 7, 10, 11, 12, 14, 16, 17, 19}, 0x42317218},
	}
	for _, row := range rows {
		wantShown(t, "CountOfZeros", wrapped(impl.CountOfZeros(zeros(9, row.cells...))), number(row.want), true)
	}
}

func TestLeastHashes(t *testing.T) {
	keys := []int64{}
	for i := range int64(10) {
		keys = append(keys, seriesKey(i))
	}
	rows := []struct {
		salt, room int64
		want       []int64
	}{
		{3, 1, []int64{269212010}},
		{3, 4, []int64{269212010, 519107235, 594064446, 1192923799}},
		{greatestKey, 9, []int64{375681198, 521574642, 564117821, 1310715216, 1644336008, 1936625249, 2297620261, 2670475561, 2706523448}},
		{greatestKey, 10, []int64{375681198, 521574642, 564117821, 1310715216, 1644336008, 1936625249, 2297620261, 2670475561, 2706523448, 4262177574}},
		{0, 11, []int64{547130271, 966406195, 1363639097, 1912750178, 2356422679, 2402250647, 3077590229, 3413551968, 3549068915, 3793791033}},
		{7, 256, []int64{798204230, 1217751144, 1288519043, 1908286939, 2173849732, 2508473998, 2585509465, 3168421504, 3489151707, 4009975715}},
	}
	for _, row := range rows {
		wantShown(t, "LeastHashes", wrapped(impl.LeastHashes(keys, row.salt, row.room)), row.want, true)
		wantShown(t, "LeastHashes of keys twice", wrapped(impl.LeastHashes(slices.Concat(keys, keys), row.salt, row.room)), row.want, true)
	}
	wantShown(t, "keys with equal hashes", wrapped(impl.LeastHashes(append(slices.Clone(equalHashes), 5), 0, 3)), []int64{1661156108, 2803608530}, true)
	wantShown(t, "one key", wrapped(impl.LeastHashes([]int64{0}, 0, 256)), []int64{3793791033}, true)
	wantShown(t, "one key often", wrapped(impl.LeastHashes(repeated(int64(0), 256), 0, 1)), []int64{3793791033}, true)
	for _, none := range [][]int64{nil, {}} {
		wantShown(t, "no keys", wrapped(impl.LeastHashes(none, greatestKey, 1)), []int64{}, true)
	}
	for _, n := range []int64{-1, greatestKey + 1, math.MaxInt64, math.MinInt64} {
		wantShown(t, "LeastHashes without a salt", wrapped(impl.LeastHashes(keys, n, 5)), []int64{}, false)
	}
	for _, room := range wrongRooms {
		wantShown(t, "LeastHashes without room", wrapped(impl.LeastHashes(keys, 3, room)), []int64{}, false)
		wantShown(t, "LeastHashes of none without room", wrapped(impl.LeastHashes(nil, 3, room)), []int64{}, false)
	}
	for _, list := range [][]int64{upTo(257), {-1}, {5, greatestKey + 1}} {
		wantShown(t, "LeastHashes of no keys", wrapped(impl.LeastHashes(list, 3, 256)), []int64{}, false)
	}
}

// wrongRooms are no rooms for least hashes.
var wrongRooms = []int64{0, -1, 257, math.MaxInt64, math.MinInt64}

// notLeast are lists that are no least hashes for the room 256.
func notLeast() [][]int64 {
	return [][]int64{{2, 1}, {1, 1}, {1, 5, 5}, {5, 6, 4}, {-1}, {-1, 5}, {5, greatestKey + 1}, {math.MinInt64, math.MaxInt64}, upTo(257), upTo(5000)}
}

func TestJoinLeast(t *testing.T) {
	rows := []struct {
		a, b []int64
		room int64
		want []int64
	}{
		{[]int64{1, 5}, []int64{2, 5}, 2, []int64{1, 2}},
		{[]int64{1, 5}, []int64{2, 5}, 3, []int64{1, 2, 5}},
		{[]int64{1, 5}, []int64{2, 5}, 256, []int64{1, 2, 5}},
		{[]int64{7}, []int64{7}, 1, []int64{7}},
		{[]int64{0, greatestKey}, []int64{greatestKey}, 2, []int64{0, greatestKey}},
		{[]int64{8, 9}, []int64{1, 2}, 2, []int64{1, 2}},
		{nil, []int64{3}, 1, []int64{3}},
		{[]int64{3}, []int64{}, 1, []int64{3}},
		{nil, nil, 1, nil},
		{[]int64{}, nil, 256, nil},
		{upTo(256), told(256, func(i int64) int64 { return i + 100 }), 256, upTo(256)},
		{told(256, func(i int64) int64 { return 2 * i }), told(256, func(i int64) int64 { return 2*i + 1 }), 256, upTo(256)},
	}
	for _, row := range rows {
		wantShown(t, "JoinLeast", wrapped(impl.JoinLeast(row.a, row.b, row.room)), row.want, true)
		wantShown(t, "JoinLeast", wrapped(impl.JoinLeast(row.b, row.a, row.room)), row.want, true)
	}
	wantShown(t, "a first list above the room", wrapped(impl.JoinLeast([]int64{1, 2, 3}, []int64{1}, 2)), []int64{}, false)
	wantShown(t, "a last list above the room", wrapped(impl.JoinLeast(nil, []int64{1, 2, 3}, 2)), []int64{}, false)
	for _, list := range notLeast() {
		wantShown(t, "JoinLeast of others", wrapped(impl.JoinLeast(list, []int64{1}, 256)), []int64{}, false)
		wantShown(t, "JoinLeast of others", wrapped(impl.JoinLeast([]int64{1}, list, 256)), []int64{}, false)
	}
	for _, room := range wrongRooms {
		wantShown(t, "JoinLeast without room", wrapped(impl.JoinLeast(nil, nil, room)), []int64{}, false)
		wantShown(t, "MeetOfLeast without room", wrapped(impl.MeetOfLeast([]int64{1}, []int64{1}, room)), float32(0), false)
		wantShown(t, "CountOfLeast without room", wrapped(impl.CountOfLeast(nil, room)), float32(0), false)
	}
}

func TestCountOfLeast(t *testing.T) {
	rows := []struct {
		list []int64
		room int64
		want uint32
	}{
		{nil, 1, plusZero},
		{[]int64{}, 256, plusZero},
		{[]int64{5}, 2, 0x3f800000},
		{[]int64{5, greatestKey}, 3, 0x40000000},
		{upTo(255), 256, 0x437f0000},
		{[]int64{0}, 1, plusZero},
		{[]int64{2147483647}, 1, plusZero},
		{[]int64{0, 1}, 2, 0x4f000000},
		{[]int64{5, greatestKey}, 2, 0x3f800000},
		{[]int64{1, 2, 3}, 3, 0x4f000000},
		{[]int64{0, 16777216}, 2, 0x43800000},
		{[]int64{7, 100, 16777218}, 3, 0x43fffffc},
		{[]int64{0, 33554433}, 2, 0x43000000},
		{[]int64{1, 1 << 31}, 2, 0x40000000},
		{[]int64{3, 4, 1000000006}, 3, 0x4109705f},
		{[]int64{269212010, 519107235, 594064446, 1192923799}, 4, 0x412cd15a},
		{append(upTo(255), greatestKey), 256, 0x437f0000},
		{upTo(256), 256, 0x4f7f0000},
		{told(256, func(i int64) int64 { return 9999991 * i }), 256, 0x43d6bfa1},
		{told(256, func(i int64) int64 { return 123457 * i }), 256, 0x4707e52d},
	}
	for _, row := range rows {
		wantShown(t, "CountOfLeast", wrapped(impl.CountOfLeast(row.list, row.room)), number(row.want), true)
	}
	wantShown(t, "CountOfLeast above the room", wrapped(impl.CountOfLeast([]int64{1, 2, 3}, 2)), float32(0), false)
	for _, list := range notLeast() {
		wantShown(t, "CountOfLeast of others", wrapped(impl.CountOfLeast(list, 256)), float32(0), false)
	}
}

func TestMeetOfLeast(t *testing.T) {
	rows := []struct {
		a, b []int64
		room int64
		want uint32
	}{
		{[]int64{1, 2}, []int64{2, 3}, 2, 0x3f000000},
		{[]int64{1, 2, 3}, []int64{1, 2, 3}, 3, 0x3f800000},
		{[]int64{1}, []int64{2}, 1, plusZero},
		{nil, []int64{5}, 1, plusZero},
		{[]int64{1, 2, 3}, []int64{3, 4, 5}, 5, 0x3e4ccccd},
		{[]int64{1, 2, 3}, []int64{3, 4, 5}, 3, 0x3eaaaaab},
		{[]int64{1, 2, 3}, []int64{3, 4, 5}, 4, 0x3e800000},
		{[]int64{0, 7, 9}, []int64{7, 9, 11}, 3, 0x3f2aaaab},
		{[]int64{1, 2, 9}, []int64{7, 8, 9}, 3, plusZero},
		{upTo(256), upTo(256), 256, 0x3f800000},
		{upTo(256), told(256, func(i int64) int64 { return 2 * i }), 256, 0x3f000000},
	}
	for _, row := range rows {
		wantShown(t, "MeetOfLeast", wrapped(impl.MeetOfLeast(row.a, row.b, row.room)), number(row.want), true)
		wantShown(t, "MeetOfLeast", wrapped(impl.MeetOfLeast(row.b, row.a, row.room)), number(row.want), true)
	}
	wantShown(t, "MeetOfLeast of none", wrapped(impl.MeetOfLeast(nil, []int64{}, 5)), float32(0), false)
	wantShown(t, "MeetOfLeast above the room", wrapped(impl.MeetOfLeast([]int64{1}, []int64{1, 2, 3}, 2)), float32(0), false)
	for _, list := range notLeast() {
		wantShown(t, "MeetOfLeast of others", wrapped(impl.MeetOfLeast(list, []int64{1}, 256)), float32(0), false)
		wantShown(t, "MeetOfLeast of others", wrapped(impl.MeetOfLeast([]int64{1}, list, 256)), float32(0), false)
	}
}
