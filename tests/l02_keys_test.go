package tests

import (
	"strings"
	"testing"

	"loop.example/g01347/impl"
)

func TestKeyOfText(t *testing.T) {
	rows := map[string]int64{"": 2166136261, "a": 3826002220, "foobar": 3214735720, " ": 621580159, "\x00": 84696351, "\xff": 2047574606, "é": 513665217, strings.Repeat("A", 300): 4095712833}
	for text, key := range rows {
		if got := impl.KeyOfText(text); got != key {
			t.Errorf("KeyOfText %q: got %d, want %d", text, got, key)
		}
	}
}

func TestKeysOfText(t *testing.T) {
	rows := map[string][]string{"a": {"a"}, "a b": {"a", "b"}, " a  b ": {"a", "b"}, "   foobar": {"foobar"}, "b a b": {"b", "a", "b"}, "a\tb\nc": {"a\tb\nc"}, "a\u00a0b\u2003c": {"a\u00a0b\u2003c"}, "\xff \xc3 \xe2\x80 x": {"\xff", "\xc3", "\xe2\x80", "x"}, "\x00 \x00": {"\x00", "\x00"}, "\u0120\u2020": {"\u0120\u2020"}}
	for text, words := range rows {
		want := []int64{}
		for _, word := range words {
			want = append(want, impl.KeyOfText(word))
		}
		wantShown(t, "KeysOfText", wrapped(impl.KeysOfText(text)), want, true)
	}
	for _, text := range []string{"", " ", "  ", strings.Repeat(" ", 1000)} {
		wantShown(t, "KeysOfText without words", wrapped(impl.KeysOfText(text)), []int64{}, true)
	}
	key := impl.KeyOfText("x")
	for _, end := range []string{"", " ", "   "} {
		wantShown(t, "255 words", wrapped(impl.KeysOfText(strings.Repeat("x ", 254)+"x"+end)), repeated(key, 255), true)
		wantShown(t, "256 words", wrapped(impl.KeysOfText(strings.Repeat("x  ", 255)+"x"+end)), repeated(key, 256), true)
		wantShown(t, "257 words", wrapped(impl.KeysOfText(strings.Repeat("x ", 256)+"x"+end)), []int64{}, false)
	}
	wantShown(t, "a long word", wrapped(impl.KeysOfText(strings.Repeat("A", 300))), []int64{4095712833}, true)
	wantShown(t, "10000 words", wrapped(impl.KeysOfText(strings.Repeat("x ", 10000))), []int64{}, false)
}

func TestHashRow(t *testing.T) {
	wantShown(t, "HashRow", wrapped(impl.HashRow(upTo(10), 3)), []int64{1336772729, 2164763611, 161079510, 648852916, 2794874414, 2313153926, 2143548128, 2500725263, 489638004, 2630115004}, true)
	wantShown(t, "HashRow", wrapped(impl.HashRow([]int64{0, greatestKey, 7, 0}, greatestKey)), []int64{564117821, 3839455607, 1501329160, 564117821}, true)
	wantShown(t, "HashRow of nil", wrapped(impl.HashRow(nil, 3)), []int64{}, true)
	row, ok := impl.HashRow(upTo(256), 0)
	if !ok || len(row) != 256 || row[0] != 3793791033 || row[1] != 2433363436 {
		t.Errorf("HashRow of 256 keys: got %v, %v", row, ok)
	}
}

func TestHashRows(t *testing.T) {
	wantShown(t, "HashRows", wrapped(impl.HashRows([]int64{0, 1}, []int64{0, greatestKey, 0})), [][]int64{{3793791033, 2433363436}, {564117821, 1521837365}, {3793791033, 2433363436}}, true)
	wantShown(t, "no salts", wrapped(impl.HashRows([]int64{0, 1}, nil)), [][]int64{}, true)
	wantShown(t, "no keys", wrapped(impl.HashRows(nil, []int64{4, 5})), [][]int64{{}, {}}, true)
	rows, ok := impl.HashRows(upTo(256), upTo(32))
	if !ok || len(rows) != 32 || len(rows[31]) != 256 {
		t.Errorf("HashRows of 256 keys and 32 salts: got %d rows, %v", len(rows), ok)
	}
	for salt, row := range rows {
		wantShown(t, "HashRows", wrapped(impl.HashRow(upTo(256), int64(salt))), row, true)
	}
}

func TestLeastHash(t *testing.T) {
	show := func(hash, at int64, ok bool) string { return shown(hash, at, ok) }
	wantShown(t, "ten keys", show(impl.LeastHash(upTo(10), 3)), 161079510, 2, true)
	wantShown(t, "equal keys", show(impl.LeastHash([]int64{greatestKey, 7, 0, 7, 0}, greatestKey)), 564117821, 2, true)
	wantShown(t, "the least one first", show(impl.LeastHash([]int64{0, greatestKey, 7, 0}, greatestKey)), 564117821, 0, true)
	wantShown(t, "one key", show(impl.LeastHash([]int64{0}, 0)), 3793791033, 0, true)
	wantShown(t, "equal hashes", show(impl.LeastHash(equalHashes, 0)), 2803608530, 0, true)
	wantShown(t, "256 keys", show(impl.LeastHash(append(upTo(255), 275546), 0)), 13467, 255, true)
	wantShown(t, "no keys", show(impl.LeastHash(nil, 3)), 0, 0, false)
}

func TestOrderByHash(t *testing.T) {
	wantShown(t, "ten keys", wrapped(impl.OrderByHash(upTo(10), 3)), []int64{2, 8, 3, 0, 6, 1, 5, 7, 9, 4}, true)
	wantShown(t, "equal keys", wrapped(impl.OrderByHash([]int64{0, greatestKey, 7, 0, greatestKey, 1 << 31}, greatestKey)), []int64{0, 3, 2, 1, 4, 5}, true)
	wantShown(t, "equal hashes", wrapped(impl.OrderByHash([]int64{equalHashes[1], 275546, equalHashes[0]}, 0)), []int64{1, 0, 2}, true)
	wantShown(t, "256 equal keys", wrapped(impl.OrderByHash(repeated(int64(9), 256), 5)), upTo(256), true)
	wantShown(t, "no keys", wrapped(impl.OrderByHash(nil, 3)), []int64{}, true)
}

func TestOrderByHashKeepsEqualOnesInOrder(t *testing.T) {
	keys := make([]int64, 256)
	for i := range keys {
		keys[i] = int64(i * i % 11)
	}
	order, ok := impl.OrderByHash(keys, 5)
	if !ok || len(order) != len(keys) {
		t.Fatalf("OrderByHash: got %v, %v", order, ok)
	}
	row, _ := impl.HashRow(keys, 5)
	for i := 1; i < len(order); i++ {
		a, b := order[i-1], order[i]
		if row[a] > row[b] || row[a] == row[b] && a >= b {
			t.Errorf("OrderByHash: the index %d stands before %d", a, b)
		}
	}
}

func TestSpreadOfKeys(t *testing.T) {
	wantShown(t, "16 counts", wrapped(impl.SpreadOfKeys(upTo(256), 1, 16)), []int64{11, 17, 16, 19, 21, 23, 21, 22, 17, 9, 12, 17, 11, 16, 12, 12}, true)
	wantShown(t, "one count", wrapped(impl.SpreadOfKeys([]int64{4, 4, 0}, 9, 1)), []int64{3}, true)
	wantShown(t, "no keys", wrapped(impl.SpreadOfKeys(nil, 9, 3)), []int64{0, 0, 0}, true)
	counts, ok := impl.SpreadOfKeys([]int64{0, 5}, 7, 256)
	if !ok || len(counts) != 256 || counts[249] != 1 {
		t.Errorf("256 counts: got %v, %v", counts, ok)
	}
	for _, n := range []int64{0, -1, 257, 1 << 32, 1<<63 - 1, -1 << 63} {
		wantShown(t, "SpreadOfKeys", wrapped(impl.SpreadOfKeys([]int64{4}, 9, n)), []int64{}, false)
		wantShown(t, "ChiOfKeys", wrapped(impl.ChiOfKeys([]int64{4}, 9, n)), float32(0), false)
	}
}

func TestMeetingsOf(t *testing.T) {
	for _, row := range [][2]int64{{1, 255}, {256, 92}, {1000, 30}, {1 << 32, 0}} {
		wantShown(t, "MeetingsOf", wrapped(impl.MeetingsOf(upTo(256), 1, row[0])), row[1], true)
	}
	wantShown(t, "equal keys", wrapped(impl.MeetingsOf([]int64{7, 0, 7, 7, 0}, 1, 1<<32)), 3, true)
	wantShown(t, "equal hashes", wrapped(impl.MeetingsOf(equalHashes, 0, 1<<32)), 1, true)
	wantShown(t, "one key", wrapped(impl.MeetingsOf([]int64{0}, 0, 1)), 0, true)
	wantShown(t, "no keys", wrapped(impl.MeetingsOf(nil, 0, 1)), 0, true)
	for _, n := range []int64{0, -1, 1<<32 + 1, 1<<63 - 1, -1 << 63} {
		wantShown(t, "MeetingsOf", wrapped(impl.MeetingsOf([]int64{4}, 9, n)), 0, false)
	}
}

func TestChiOfKeys(t *testing.T) {
	rows := []struct {
		keys, salt, n int64
		want          uint32
	}{{1, 0, 1, plusZero}, {1, 0, 2, 0x3f800000}, {1, 0, 3, 0x3ffffffe}, {1, 0, 256, 0x437f0000}, {256, 0, 1, plusZero}, {256, 0, 2, 0x3ff20000}, {256, 1, 2, 0x40f20000}, {256, 0, 3, 0x40420000}, {256, 0, 7, 0x403fffff}, {256, 1, 7, 0x4136c000}, {256, 0, 256, 0x43930000}, {5, 0, 7, 0x40999998}, {50, 0, 11, 0x4183851e}, {5, 0, 13, 0x41533330}, {256, 0, 100, 0x42fa7ff8}, {5, 0, 150, 0x43110003}, {100, 9, 7, 0x4122e147}}
	for _, row := range rows {
		got, ok := impl.ChiOfKeys(upTo(int(row.keys)), row.salt, row.n)
		wantTrue(t, "ChiOfKeys", ok)
		wantNumber(t, "ChiOfKeys", got, row.want)
	}
	got, _ := impl.ChiOfKeys([]int64{1}, 0, 3)
	wantNumber(t, "ChiOfKeys in the middle of three", got, 0x3fffffff)
	got, _ = impl.ChiOfKeys([]int64{5, 5, 5}, 2, 3)
	wantNumber(t, "ChiOfKeys of equal keys", got, 0x40c00000)
	wantShown(t, "no keys", wrapped(impl.ChiOfKeys(nil, 2, 3)), float32(0), false)
}

func TestLikeShare(t *testing.T) {
	for _, row := range [][5]int64{{100, 50, 150, 32, 0x3eb00000}, {256, 0, 256, 32, 0x3f800000}, {100, 100, 200, 32, plusZero}, {200, 100, 256, 7, 0x3edb6db7}, {3, 1, 4, 3, 0x3f2aaaab}, {10, 2, 11, 32, 0x3f300000}} {
		got, ok := impl.LikeShare(upTo(256)[:row[0]], upTo(256)[row[1]:row[2]], upTo(int(row[3])))
		wantTrue(t, "LikeShare", ok)
		wantNumber(t, "LikeShare", got, uint32(row[4]))
	}
	wantShown(t, "equal keys at other places", wrapped(impl.LikeShare([]int64{0, 9, 9}, []int64{9, 9, 0, 0}, []int64{0, greatestKey, 0})), float32(1), true)
	wantShown(t, "other keys with equal hashes", wrapped(impl.LikeShare(equalHashes[:1], equalHashes[1:], []int64{0})), float32(0), true)
	wantShown(t, "one of two salts", wrapped(impl.LikeShare([]int64{21412, 140572}, []int64{140572, 21412}, []int64{0, 1})), float32(0.5), true)
	one := []int64{1}
	wantShown(t, "no first keys", wrapped(impl.LikeShare(nil, one, one)), float32(0), false)
	wantShown(t, "no second keys", wrapped(impl.LikeShare(one, nil, one)), float32(0), false)
	wantShown(t, "no salts", wrapped(impl.LikeShare(one, one, nil)), float32(0), false)
	wantShown(t, "33 salts", wrapped(impl.LikeShare(one, one, upTo(33))), float32(0), false)
}
