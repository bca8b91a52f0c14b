package tests

import (
	"testing"

	"loop.example/g01347/impl"
)

// stream has 256 keys, some of them often, most of them close to each other or to the greatest one.
func stream(turn int64) []int64 {
	keys := []int64{}
	for i := range int64(256) {
		switch i % 4 {
		case 0:
			keys = append(keys, i*i*66123+turn)
		case 1:
			keys = append(keys, greatestKey-i*turn%7)
		default:
			keys = append(keys, i*i*turn%53)
		}
	}
	return keys
}

// countsOf counts keys without the program.
func countsOf(lists ...[]int64) map[int64]int64 {
	counts := map[int64]int64{}
	for _, list := range lists {
		for _, key := range list {
			counts[key]++
		}
	}
	return counts
}

// someEmptyCells have one row, the greatest number of rows, the least and the greatest wide, and salts that pass the greatest one.
func someEmptyCells() []impl.Cells {
	return []impl.Cells{evenCells(2, 1, 0, 0), evenCells(2, 6, greatestKey-3, 0), evenCells(64, 1, greatestKey, 0), evenCells(64, 6, greatestKey-5, 0), evenCells(7, 3, 12, 0), evenCells(17, 2, greatestKey, 0)}
}

func wantNeverLess(t *testing.T, what string, c impl.Cells, put map[int64]int64) {
	t.Helper()
	for key, count := range put {
		if got, ok := impl.CellsAt(c, key); !ok || got < count {
			t.Errorf("%s with %d rows: the key %d was put with %d, and %d, %v is told", what, c.Deep, key, count, got, ok)
		}
	}
}

func TestPromise4CellsNeverTellLess(t *testing.T) {
	for _, empty := range someEmptyCells() {
		plain, careful, mixed, put := empty, empty, empty, map[int64]int64{}
		for i, key := range stream(3) {
			by := int64(i * 7919 % 100)
			var one, two, three bool
			plain, one = impl.PutCells(plain, key, by)
			careful, two = impl.PutCareful(careful, key, by)
			if i%3 == 0 {
				mixed, three = impl.PutCells(mixed, key, by)
			} else {
				mixed, three = impl.PutCareful(mixed, key, by)
			}
			wantTrue(t, "putting", one && two && three)
			put[key] += by
		}
		wantNeverLess(t, "PutCells", plain, put)
		wantNeverLess(t, "PutCareful", careful, put)
		wantNeverLess(t, "PutCells and PutCareful", mixed, put)
		wantRowsHold(t, plain, put)
		for i, count := range careful.Counts {
			wantTrue(t, "careful counts are never greater", count <= mixed.Counts[i] && mixed.Counts[i] <= plain.Counts[i])
		}
		both, ok := impl.MergeCells(plain, careful)
		wantTrue(t, "MergeCells", ok)
		for key := range put {
			put[key] *= 2
		}
		wantNeverLess(t, "MergeCells", both, put)
	}
}

// wantRowsHold checks that each row has all that was put.
func wantRowsHold(t *testing.T, c impl.Cells, put map[int64]int64) {
	t.Helper()
	all := int64(0)
	for _, count := range put {
		all += count
	}
	wantShown(t, "CellsTotal", wrapped(impl.CellsTotal(c)), all, true)
	for row := range c.Deep {
		sum := int64(0)
		for _, count := range c.Counts[row*c.Wide : (row+1)*c.Wide] {
			sum += count
		}
		wantShown(t, "the sum of a row", shown(sum), all)
	}
}

func TestPromise4DotsAreNeverLess(t *testing.T) {
	one, two := stream(3), stream(5)
	exact := int64(0)
	for key, count := range countsOf(one) {
		exact += count * countsOf(two)[key]
	}
	for _, empty := range someEmptyCells() {
		a, _ := impl.CellsShared(empty.Wide, empty.Deep, empty.Salt, [][]int64{one}, 1)
		b, _ := impl.CellsShared(empty.Wide, empty.Deep, empty.Salt, [][]int64{two}, 1)
		dot, ok := impl.CellsDot(a, b)
		wantTrue(t, "CellsDot", ok && dot >= exact)
		wantShown(t, "CellsDot in the other order", wrapped(impl.CellsDot(b, a)), dot, true)
	}
}

func TestPromise4SignedCellsTellOneKeyExactly(t *testing.T) {
	for _, empty := range someEmptyCells() {
		for _, key := range []int64{0, 9, greatestKey} {
			a, one := impl.PutSigned(empty, key, -1000000)
			b, two := impl.PutSigned(a, key, 999000)
			wantTrue(t, "PutSigned", one && two)
			wantShown(t, "SignedAt", wrapped(impl.SignedAt(b, key)), -1000, true)
			wantShown(t, "SignedNorm", wrapped(impl.SignedNorm(b)), 1000000, true)
			c, _ := impl.PutSigned(b, key, 1000)
			wantTrue(t, "taken out again", impl.SameCells(c, empty))
		}
	}
}

// wantBounds checks the bounds of all keys of a stream, and of some that were not put.
func wantBounds(t *testing.T, what string, top impl.Tops, counts map[int64]int64) {
	t.Helper()
	wantTrue(t, what+" is valid", impl.ValidTops(top))
	for _, key := range append(upTo(256), greatestKey, greatestKey-1, 1<<31) {
		counts[key] += 0
	}
	for key, count := range counts {
		if low, high, ok := impl.TopBounds(top, key); !ok || low > count || count > high {
			t.Errorf("%s with the room %d: the key %d was put %d times, and %d to %d, %v are told", what, top.Room, key, count, low, high, ok)
		}
	}
}

func TestPromise4BoundsOfTopsHold(t *testing.T) {
	streams := [][]int64{nil, {5}, upTo(256), repeated(int64(7), 256), stream(1), stream(3), stream(11)}
	for _, room := range []int64{1, 2, 3, 8, 31, 32} {
		for _, a := range streams {
			one, ok := impl.TopsOf(room, a)
			wantTrue(t, "TopsOf", ok)
			wantBounds(t, "TopsOf", one, countsOf(a))
			for _, b := range streams {
				two, _ := impl.TopsOf(room, b)
				both, ok := impl.MergeTops(one, two)
				wantTrue(t, "MergeTops", ok)
				wantBounds(t, "MergeTops", both, countsOf(a, b))
				for _, key := range stream(2)[:50] {
					both, _ = impl.PutTop(both, key)
				}
				wantBounds(t, "PutTop behind MergeTops", both, countsOf(a, b, stream(2)[:50]))
			}
		}
	}
}

func TestPromise4CountsOfTopsAreAllKeys(t *testing.T) {
	for _, room := range []int64{1, 2, 5, 32} {
		top := tops(room, nil, nil, nil)
		for i, key := range stream(3) {
			next, ok := impl.PutTop(top, key)
			wantTrue(t, "PutTop", ok)
			top = next
			sum := 0
			for _, count := range top.Counts {
				sum += int(count)
			}
			wantShown(t, "the sum of all counts", shown(sum), i+1)
		}
		wantShown(t, "TopsOf", wrapped(impl.TopsOf(room, stream(3))), top, true)
	}
}

func TestPromise4HeavyTopsWerePutOften(t *testing.T) {
	counts := countsOf(stream(3))
	for _, room := range []int64{1, 2, 16, 32} {
		top, _ := impl.TopsOf(room, stream(3))
		for least := int64(1); least < 70; least++ {
			heavy, ok := impl.HeavyTops(top, least)
			wantTrue(t, "HeavyTops", ok)
			for i, key := range heavy {
				wantTrue(t, "ascending order", i == 0 || heavy[i-1] < key)
				wantTrue(t, "a key that was put often", counts[key] >= least)
			}
		}
	}
}

func TestPromise4ExactCountsAreExact(t *testing.T) {
	for _, list := range [][]int64{nil, {5}, upTo(256), repeated(int64(7), 256), stream(1), stream(3)} {
		keys, counts, ok := impl.ExactCounts(list)
		want := countsOf(list)
		if !ok || len(keys) != len(want) || len(counts) != len(want) {
			t.Fatalf("ExactCounts: got %v, %v, %v", keys, counts, ok)
		}
		for i, key := range keys {
			wantTrue(t, "ascending order", i == 0 || keys[i-1] < key)
			wantShown(t, "the count of "+impl.Decimal(key), shown(counts[i]), want[key])
		}
	}
}

func TestPromise4AnyNumberOfWorkersMakesTheSameCells(t *testing.T) {
	all := [][]int64{}
	for turn := range int64(16) {
		all = append(all, stream(turn + 1)[:16*turn+16])
	}
	for _, empty := range someEmptyCells() {
		for _, lists := range [][][]int64{all[:1], {nil, all[3], {}}, all[:7], all[:8], all[:9], all} {
			want := empty
			for _, list := range lists {
				for _, key := range list {
					want, _ = impl.PutCells(want, key, 1)
				}
			}
			for workers := int64(1); workers <= impl.MaxWorkers; workers++ {
				for range 3 {
					wantShown(t, "CellsShared", wrapped(impl.CellsShared(empty.Wide, empty.Deep, empty.Salt, lists, workers)), want, true)
				}
			}
			wantNeverLess(t, "CellsShared", want, countsOf(lists...))
		}
	}
}

func TestPromise4HeavyLayersMissNoKey(t *testing.T) {
	for _, salt := range []int64{0, greatestKey - 350, greatestKey} {
		list, put := layers(64, 6, salt), map[int64]int64{}
		for i, key := range stream(7) {
			next, ok := impl.PutLayers(list, key, int64(i%9)*1000)
			wantTrue(t, "PutLayers", ok)
			list = next
			put[key] += int64(i%9) * 1000
		}
		for least := int64(8000); least <= 300000; least += 8000 {
			heavy, ok := impl.HeavyLayers(list, least)
			if !ok {
				continue
			}
			found := map[int64]bool{}
			for i, key := range heavy {
				wantTrue(t, "ascending order", i == 0 || heavy[i-1] < key)
				found[key] = true
			}
			for key, count := range put {
				wantTrue(t, "a key that was put often is found", count < least || found[key])
			}
		}
		if heavy, ok := impl.HeavyLayers(list, 30000); !ok || len(heavy) == 0 {
			t.Errorf("HeavyLayers with the salt %d: got %v, %v", salt, heavy, ok)
		}
	}
}
