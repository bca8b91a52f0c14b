package tests

import (
	"slices"
	"testing"

	"loop.example/g01347/impl"
)

// someKeys has the key 0, the greatest one, and others far from each other.
func someKeys() []int64 {
	keys := []int64{0, greatestKey}
	for i := range int64(254) {
		keys = append(keys, i*i*66123+i)
	}
	return keys
}

func TestPromise3AnyNumberOfWorkersMakesTheSameHashes(t *testing.T) {
	salts := []int64{}
	for i := range int64(32) {
		salts = append(salts, greatestKey-i*134217727)
	}
	for _, keys := range [][]int64{nil, {0}, {greatestKey, 0, 0}, someKeys()} {
		for _, some := range [][]int64{nil, salts[:1], salts[:7], salts[:8], salts[:9], repeated(int64(5), 32), salts} {
			rows, ok := impl.HashRows(keys, some)
			if !ok || len(rows) != len(some) {
				t.Fatalf("HashRows: got %d rows, %v", len(rows), ok)
			}
			for workers := int64(1); workers <= impl.MaxWorkers; workers++ {
				for range 5 {
					wantShown(t, "RowsShared", wrapped(impl.RowsShared(keys, some, workers)), rows, true)
				}
			}
		}
	}
}

func TestPromise3RowsAreHashes(t *testing.T) {
	keys, salts := []int64{0, greatestKey, 5, 5}, []int64{0, greatestKey, 9}
	for workers := int64(1); workers <= impl.MaxWorkers; workers++ {
		rows, ok := impl.RowsShared(keys, salts, workers)
		if !ok || len(rows) != len(salts) {
			t.Fatalf("RowsShared: got %v, %v", rows, ok)
		}
		for i, salt := range salts {
			for k, key := range keys {
				wantShown(t, "HashOf", wrapped(impl.HashOf(key, salt)), rows[i][k], true)
			}
		}
	}
}

func TestPromise3LimitsOfRows(t *testing.T) {
	none := [][]int64(nil)
	for _, workers := range []int64{0, -1, impl.MaxWorkers + 1, 1<<63 - 1, -1 << 63} {
		wantShown(t, "other workers", wrapped(impl.RowsShared([]int64{1}, []int64{2}, workers)), none, false)
	}
	rows := [][2][]int64{{{1}, upTo(33)}, {upTo(257), {1}}, {{-1}, {1}}, {{1, greatestKey + 1}, {1}}, {{1}, {0, -1}}, {{1}, {greatestKey + 1}}, {{-1}, nil}, {nil, {-1}}}
	for _, row := range rows {
		wantShown(t, "HashRows", wrapped(impl.HashRows(row[0], row[1])), none, false)
		for _, workers := range []int64{1, impl.MaxWorkers} {
			wantShown(t, "RowsShared", wrapped(impl.RowsShared(row[0], row[1], workers)), none, false)
		}
	}
}

func TestPromise3NewNodesOnlyTakeKeys(t *testing.T) {
	nodes := []int64{}
	for i := range int64(64) {
		nodes = append(nodes, (i*i*99991+7)%greatestKey)
	}
	for _, key := range someKeys() {
		home, ok := impl.HomeOf(key, nodes[:1])
		wantShown(t, "the only node", shown(home, ok), 0, true)
		for n := 2; n <= len(nodes); n++ {
			next, ok := impl.HomeOf(key, nodes[:n])
			if !ok || next != home && next != int64(n-1) {
				t.Errorf("key %d with %d nodes: from %d to %d, %v", key, n, home, next, ok)
			}
			home = next
		}
	}
}

func TestPromise3OnlyKeysOfALostNodeMove(t *testing.T) {
	nodes := []int64{greatestKey, 0, 77, 1 << 31, 5, 6}
	for _, key := range someKeys() {
		home, _ := impl.HomeOf(key, nodes)
		for lost := range nodes {
			rest := slices.Delete(slices.Clone(nodes), lost, lost+1)
			next, ok := impl.HomeOf(key, rest)
			if !ok || int64(lost) != home && rest[next] != nodes[home] {
				t.Errorf("key %d without the node %d: from %d to %d, %v", key, nodes[lost], nodes[home], rest[next], ok)
			}
		}
		turned := slices.Clone(nodes)
		slices.Reverse(turned)
		if other, _ := impl.HomeOf(key, turned); turned[other] != nodes[home] {
			t.Errorf("key %d: the order of nodes changes its home", key)
		}
	}
}

func TestPromise3NewPointsOnlyTakeKeys(t *testing.T) {
	points := []int64{}
	for i := range int64(40) {
		added := i * i * 1977326743 % greatestKey
		before := slices.Clone(points)
		points = append(points, added)
		slices.Sort(points)
		if len(before) == 0 {
			continue
		}
		for _, key := range someKeys() {
			old, one := impl.RingHome(key, 3, before)
			next, two := impl.RingHome(key, 3, points)
			if !one || !two || points[next] != before[old] && points[next] != added {
				t.Errorf("key %d with the new point %d: from %d to %d", key, added, before[old], points[next])
			}
		}
	}
}

func TestPromise3JumpsOnlyGoToTheNewHome(t *testing.T) {
	for _, key := range someKeys() {
		home, ok := impl.JumpHome(key, 1)
		wantShown(t, "the only home", shown(home, ok), 0, true)
		for n := int64(2); n <= 600; n++ {
			next, ok := impl.JumpHome(key, n)
			if !ok || next != home && next != n-1 {
				t.Errorf("key %d with %d homes: from %d to %d, %v", key, n, home, next, ok)
			}
			home = next
		}
		near, _ := impl.JumpHome(key, 999999)
		far, ok := impl.JumpHome(key, 1000000)
		if !ok || far != near && far != 999999 {
			t.Errorf("key %d with 1000000 homes: from %d to %d, %v", key, near, far, ok)
		}
	}
}

func TestPromise3NewHomesGetTheirShare(t *testing.T) {
	moved := [2]int{}
	for key := range int64(10000) {
		nodes := upTo(10)
		one, _ := impl.HomeOf(key, nodes[:9])
		two, _ := impl.HomeOf(key, nodes)
		three, _ := impl.JumpHome(key, 9)
		four, _ := impl.JumpHome(key, 10)
		for i, changed := range []bool{one != two, three != four} {
			if changed {
				moved[i]++
			}
		}
	}
	for i, n := range moved {
		if n < 850 || n > 1150 {
			t.Errorf("way %d: %d of 10000 keys move to the tenth home", i, n)
		}
	}
}

func TestPromise3PlacesAreSwappedBack(t *testing.T) {
	for _, n := range []int64{1, 2, 3, 4, 5, 15, 16, 17, 63, 64, 65, 256, 257, 1000, 1024, 1025, 4096, 4097, 16384, 16385, 40000, 65535, 65536} {
		for _, salt := range []int64{0, 12345, greatestKey - 1, greatestKey} {
			taken := make([]bool, n)
			for k := range n {
				place, ok := impl.SwapPlace(k, n, salt)
				if !ok || place < 0 || place >= n || taken[place] {
					t.Fatalf("SwapPlace %d below %d with the salt %d: got %d, %v", k, n, salt, place, ok)
				}
				taken[place] = true
				if n > 5000 && k%97 != 0 {
					continue
				}
				if back, ok := impl.BackPlace(place, n, salt); !ok || back != k {
					t.Fatalf("BackPlace %d below %d with the salt %d: got %d, %v, want %d", place, n, salt, back, ok, k)
				}
			}
		}
	}
}
