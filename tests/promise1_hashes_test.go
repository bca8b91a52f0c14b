package tests

import (
	"math"
	"strings"
	"testing"

	"loop.example/g01347/impl"
)

func awkwardKeys() []int64 {
	return []int64{0, 1, 5, 1 << 31, greatestKey, greatestKey + 1, -1, math.MaxInt64, math.MinInt64}
}

func awkwardCounts() []int64 {
	return []int64{0, 1, 2, 7, 8, 9, 32, 33, 256, 257, 65536, 65537, 1000000, 1000001, 1<<32 - 1, 1 << 32, 1<<32 + 1, -1, math.MaxInt64, math.MinInt64}
}

func awkwardLists() [][]int64 {
	return [][]int64{nil, {}, {0}, {0, 0}, {greatestKey, 0, 5}, {3, 4, 4}, {-1}, {0, greatestKey + 1}, {math.MinInt64, math.MaxInt64}, upTo(32), upTo(33), upTo(64), upTo(65), repeated(int64(greatestKey), 256), repeated(int64(0), 257), repeated(int64(7), 5000)}
}

// keyResults has a line for each function of keys and hashes of one key.
func keyResults() []string {
	lines := []string{}
	for _, k := range awkwardKeys() {
		zeros, one := impl.ZerosOf(k)
		low, two := impl.LowZerosOf(k)
		lines = append(lines, shown("key", impl.IsKey(k), impl.MixHash(uint64(k)), zeros, one, low, two))
		for _, salt := range awkwardKeys() {
			lines = append(lines, wrapped(impl.HashOf(k, salt)), wrapped(impl.SignOf(k, salt)), wrapped(impl.ShareHash(k, salt)))
			for _, n := range awkwardCounts() {
				lines = append(lines, wrapped(impl.BelowHash(k, salt, n)), wrapped(impl.BitsOfHash(k, salt, n)), wrapped(impl.SwapPlace(k, n, salt)), wrapped(impl.BackPlace(k, n, salt)))
			}
		}
		for _, n := range awkwardCounts() {
			lines = append(lines, wrapped(impl.JumpHome(k, n)))
		}
	}
	for _, text := range append(awkwardTexts(), "", " ", " a  b ", strings.Repeat("a ", 256), strings.Repeat("a ", 257)) {
		lines = append(lines, shown("text", impl.KeyOfText(text)), wrapped(impl.KeysOfText(text)))
	}
	return lines
}

// keyListResults has a line for each function of lists of keys.
func keyListResults() []string {
	lines := []string{}
	for _, list := range awkwardLists() {
		lines = append(lines, shown("list", impl.AreKeys(list)))
		for _, salt := range awkwardKeys() {
			hash, at, ok := impl.LeastHash(list, salt)
			lines = append(lines, shown("least", hash, at, ok), wrapped(impl.HashRow(list, salt)), wrapped(impl.OrderByHash(list, salt)), wrapped(impl.HomeOf(salt, list)))
			for _, n := range awkwardCounts() {
				lines = append(lines, wrapped(impl.SpreadOfKeys(list, salt, n)), wrapped(impl.MeetingsOf(list, salt, n)), wrapped(impl.ChiOfKeys(list, salt, n)))
			}
			for _, key := range awkwardKeys() {
				lines = append(lines, wrapped(impl.RingHome(key, salt, list)))
			}
		}
		for _, other := range awkwardLists() {
			lines = append(lines, wrapped(impl.HashRows(list, other)), wrapped(impl.LikeShare(list, other, []int64{0, 9})), wrapped(impl.LikeShare(list, list, other)))
			for _, workers := range awkwardCounts() {
				lines = append(lines, wrapped(impl.RowsShared(list, other, workers)))
			}
		}
	}
	return lines
}

func TestPromise1HashesReturnEqualResults(t *testing.T) {
	for _, results := range []func() []string{keyResults, keyListResults} {
		first, again := results(), results()
		for i := range first {
			if again[i] != first[i] {
				t.Errorf("%s then %s", first[i], again[i])
			}
		}
	}
}

func TestPromise1HashesKeepArguments(t *testing.T) {
	keys := map[string]func(list []int64){
		"AreKeys":      func(list []int64) { impl.AreKeys(list) },
		"HashRow":      func(list []int64) { impl.HashRow(list, 2) },
		"HashRows":     func(list []int64) { impl.HashRows(list, list) },
		"RowsShared":   func(list []int64) { impl.RowsShared(list, list, 8) },
		"LeastHash":    func(list []int64) { impl.LeastHash(list, 2) },
		"OrderByHash":  func(list []int64) { impl.OrderByHash(list, 2) },
		"SpreadOfKeys": func(list []int64) { impl.SpreadOfKeys(list, 2, 3) },
		"MeetingsOf":   func(list []int64) { impl.MeetingsOf(list, 2, 3) },
		"ChiOfKeys":    func(list []int64) { impl.ChiOfKeys(list, 2, 3) },
		"HomeOf":       func(list []int64) { impl.HomeOf(2, list) },
		"RingHome":     func(list []int64) { impl.RingHome(2, 2, list) },
		"LikeShare":    func(list []int64) { impl.LikeShare(list, list, list) },
	}
	for what, call := range keys {
		wantKept(t, what, 9, 3, call)
		wantKept(t, what, 3, 9, call)
		wantKept(t, what+" of equal ones", 7, 7, call)
		wantKept(t, what+" that fails", -1, 7, call)
	}
}

// spoil changes a list and the room behind it.
func spoil[T int64 | float32 | complex64](list []T) {
	list = list[:cap(list)]
	for i := range list {
		list[i] = 99
	}
}

// wantApart checks that a change of a list that a call returned, and of the room behind it, does not show in other calls or in its argument.
func wantApart(t *testing.T, what string, keys []int64, call func() ([]int64, bool)) {
	t.Helper()
	before, kept := wrapped(call()), shown(keys)
	list, _ := call()
	spoil(list)
	wantSame(t, what, shown(keys)+wrapped(call()), kept+before)
}

func TestPromise1HashesReturnNewLists(t *testing.T) {
	keys := []int64{4, 0, greatestKey}
	wantApart(t, "HashRow", keys, func() ([]int64, bool) { return impl.HashRow(keys, 2) })
	wantApart(t, "OrderByHash", keys, func() ([]int64, bool) { return impl.OrderByHash(keys, 2) })
	wantApart(t, "SpreadOfKeys", keys, func() ([]int64, bool) { return impl.SpreadOfKeys(keys, 2, 3) })
	wantApart(t, "KeysOfText", keys, func() ([]int64, bool) { return impl.KeysOfText("a b a") })
	bits, _ := impl.BitsOfHash(4, 2, 32)
	before := shown(bits)
	for i := range bits {
		bits[i] = !bits[i]
	}
	wantSame(t, "BitsOfHash", wrapped(impl.BitsOfHash(4, 2, 32)), before+shown(true))
}

func TestPromise1RowsAreApart(t *testing.T) {
	keys, salts := []int64{4, 0, greatestKey}, []int64{7, 7, 0}
	calls := map[string]func() ([][]int64, bool){
		"HashRows":   func() ([][]int64, bool) { return impl.HashRows(keys, salts) },
		"RowsShared": func() ([][]int64, bool) { return impl.RowsShared(keys, salts, 3) },
	}
	for what, call := range calls {
		before := wrapped(call())
		for i, salt := range salts {
			rows, _ := call()
			for k, row := range rows {
				if k != i {
					spoil(row)
				}
			}
			want, _ := impl.HashRow(keys, salt)
			wantSame(t, what+" after a change of other rows", shown(rows[i]), shown(want))
		}
		wantSame(t, what, wrapped(call()), before)
	}
}

func TestPromise1HashesFailWithZeroValues(t *testing.T) {
	noNumber, noList, noFloat := shown(0, false), shown([]int64{}, false), shown(float32(0), false)
	lists := map[string][]int64{"257 keys": upTo(257), "one below": {3, -1}, "one above": {greatestKey + 1, 3}}
	for what, list := range lists {
		hash, at, ok := impl.LeastHash(list, 2)
		wantSame(t, "LeastHash of "+what, shown(hash, at, ok), shown(0, 0, false))
		wantSame(t, "HashRow of "+what, wrapped(impl.HashRow(list, 2)), noList)
		wantSame(t, "OrderByHash of "+what, wrapped(impl.OrderByHash(list, 2)), noList)
		wantSame(t, "SpreadOfKeys of "+what, wrapped(impl.SpreadOfKeys(list, 2, 3)), noList)
		wantSame(t, "MeetingsOf of "+what, wrapped(impl.MeetingsOf(list, 2, 3)), noNumber)
		wantSame(t, "ChiOfKeys of "+what, wrapped(impl.ChiOfKeys(list, 2, 3)), noFloat)
		wantSame(t, "HomeOf of "+what, wrapped(impl.HomeOf(2, list)), noNumber)
		wantSame(t, "RingHome of "+what, wrapped(impl.RingHome(2, 2, list)), noNumber)
		wantSame(t, "LikeShare of first "+what, wrapped(impl.LikeShare(list, []int64{2}, []int64{2})), noFloat)
		wantSame(t, "LikeShare of second "+what, wrapped(impl.LikeShare([]int64{2}, list, []int64{2})), noFloat)
		wantSame(t, "LikeShare with salts of "+what, wrapped(impl.LikeShare([]int64{2}, []int64{2}, list)), noFloat)
	}
	keys := []int64{1, 2}
	for _, salt := range []int64{-1, greatestKey + 1, math.MaxInt64, math.MinInt64} {
		hash, at, ok := impl.LeastHash(keys, salt)
		wantSame(t, "LeastHash with another salt", shown(hash, at, ok), shown(0, 0, false))
		wantSame(t, "HashRow with another salt", wrapped(impl.HashRow(keys, salt)), noList)
		wantSame(t, "OrderByHash with another salt", wrapped(impl.OrderByHash(keys, salt)), noList)
		wantSame(t, "SpreadOfKeys with another salt", wrapped(impl.SpreadOfKeys(keys, salt, 3)), noList)
		wantSame(t, "MeetingsOf with another salt", wrapped(impl.MeetingsOf(keys, salt, 3)), noNumber)
		wantSame(t, "ChiOfKeys with another salt", wrapped(impl.ChiOfKeys(keys, salt, 3)), noFloat)
	}
}
