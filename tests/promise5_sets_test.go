package tests

import (
	"slices"
	"testing"

	"loop.example/g01347/impl"
)

// different are the keys of a stream, each one once, in the order of the stream.
func different(keys []int64) []int64 {
	list := []int64{}
	for _, key := range keys {
		if !slices.Contains(list, key) {
			list = append(list, key)
		}
	}
	return list
}

// someEmptySieves have the least and the greatest numbers of bits and rounds, and salts that pass the greatest one.
func someEmptySieves() []impl.Sieve {
	return []impl.Sieve{partSieve(1, 0, 1, 0), partSieve(8, greatestKey, 1, 0), partSieve(1, greatestKey, 512, 0), partSieve(8, greatestKey-3, 512, 0), partSieve(2, 7, 32, 0), partSieve(3, 12, 33, 0), partSieve(8, 0, 500, 0)}
}

func wantAllIn(t *testing.T, what string, s impl.Sieve, keys []int64) {
	t.Helper()
	for _, key := range keys {
		if in, ok := impl.InSieve(s, key); !in || !ok {
			t.Errorf("%s with %d bits and %d rounds: the key %d was put, and %v, %v is told", what, len(s.Bits), s.Rounds, key, in, ok)
		}
	}
}

func TestPromise5SievesDenyNoKey(t *testing.T) {
	for _, empty := range someEmptySieves() {
		some := empty
		for i, key := range stream(3) {
			next, ok := impl.PutSieve(some, key)
			wantTrue(t, "PutSieve", ok)
			for k, bit := range some.Bits {
				wantTrue(t, "bits stay true", next.Bits[k] || !bit)
			}
			some = next
			if i%16 == 15 {
				wantAllIn(t, "PutSieve", some, stream(3)[:i+1])
			}
		}
		wantShown(t, "SieveOf", wrapped(impl.SieveOf(empty, stream(3))), some, true)
		turned := stream(3)
		slices.Reverse(turned)
		wantShown(t, "SieveOf in the opposite order", wrapped(impl.SieveOf(empty, turned)), some, true)
		for _, key := range someKeys() {
			in, ok := impl.InSieve(empty, key)
			wantFalse(t, "an empty sieve has no key", in || !ok)
		}
	}
}

func TestPromise5SievesOfPartsAreJoined(t *testing.T) {
	all := stream(5)
	for _, empty := range someEmptySieves() {
		whole, _ := impl.SieveOf(empty, all)
		for _, cut := range []int{0, 1, 2, 3, 77, 128, 255, 256} {
			a, one := impl.SieveOf(empty, all[:cut])
			b, two := impl.SieveOf(empty, all[cut:])
			wantTrue(t, "SieveOf", one && two)
			wantShown(t, "JoinSieves", wrapped(impl.JoinSieves(a, b)), whole, true)
			wantShown(t, "JoinSieves in the other order", wrapped(impl.JoinSieves(b, a)), whole, true)
			wantShown(t, "JoinSieves with all", wrapped(impl.JoinSieves(whole, a)), whole, true)
			wantShown(t, "MeetSieves with all", wrapped(impl.MeetSieves(whole, a)), a, true)
			wantShown(t, "SieveOf behind the other part", wrapped(impl.SieveOf(a, all[cut:])), whole, true)
			both, _ := impl.SieveOf(empty, all[cut/2:])
			meet, ok := impl.MeetSieves(a, both)
			wantTrue(t, "MeetSieves", ok)
			wantAllIn(t, "MeetSieves", meet, all[cut/2:cut])
		}
	}
}

func TestPromise5TalliesNeverTellLess(t *testing.T) {
	for _, s := range someEmptySieves() {
		empty := tally(s.Rounds, s.Salt, make([]int64, len(s.Bits))...)
		full, counts := empty, map[int64]int64{}
		for i, key := range stream(3) {
			next, ok := impl.PutTally(full, key)
			wantTrue(t, "PutTally", ok)
			full = next
			counts[key]++
			wantShown(t, "the sum of all counts", shown(sumOfList(full.Counts)), int64(i+1)*s.Rounds)
		}
		for key, count := range counts {
			if got, ok := impl.InTally(full, key); !ok || got < count {
				t.Errorf("the key %d was put %d times, and %d, %v is told", key, count, got, ok)
			}
		}
		for _, key := range stream(3) {
			counts[key]--
			next, ok := impl.OutTally(full, key)
			wantTrue(t, "OutTally", ok)
			full = next
			for other, count := range counts {
				if got, _ := impl.InTally(full, other); got < count {
					t.Errorf("the key %d is there %d times, and %d is told", other, count, got)
				}
			}
		}
		wantShown(t, "all taken out", shown(full), empty)
	}
}

// sumOfList is the sum of a list, made without the program.
func sumOfList(list []int64) int64 {
	sum := int64(0)
	for _, n := range list {
		sum += n
	}
	return sum
}

func wantAllFingers(t *testing.T, what string, f impl.Fingers, keys []int64) {
	t.Helper()
	for _, key := range keys {
		if in, ok := impl.InFingers(f, key); !in || !ok {
			t.Errorf("%s with %d cells: the key %d was put, and %v, %v is told", what, len(f.Cells), key, in, ok)
		}
	}
}

// filled puts keys into cells up to the first one that fails, and returns those that were put.
func filled(t *testing.T, f impl.Fingers, keys []int64) (impl.Fingers, []int64) {
	t.Helper()
	for i, key := range keys {
		next, ok := impl.PutFinger(f, key)
		if !ok {
			return f, keys[:i]
		}
		f = next
		empty := 0
		for _, cell := range f.Cells {
			if cell == 0 {
				empty++
			}
		}
		wantShown(t, "cells that are left", shown(empty), len(f.Cells)-i-1)
		wantAllFingers(t, "PutFinger", f, keys[:i+1])
	}
	return f, keys
}

func TestPromise5CellsDenyNoKey(t *testing.T) {
	for n := 2; n <= 256; n *= 2 {
		for _, salt := range []int64{0, 7, greatestKey - 1, greatestKey} {
			for _, keys := range [][]int64{someKeys(), stream(3), upTo(256)} {
				full, put := filled(t, fingers(salt, make([]int64, n)...), keys)
				// A key can be put often only as far as its two houses have room.
				wantTrue(t, "different keys fill half of the cells", len(different(keys)) < len(keys) || len(put) >= min(n/2, len(keys)))
				for i, key := range put {
					next, ok := impl.OutFinger(full, key)
					wantTrue(t, "OutFinger", ok)
					full = next
					wantAllFingers(t, "OutFinger", full, put[i+1:])
				}
				wantShown(t, "all taken out", shown(full), fingers(salt, make([]int64, n)...))
			}
		}
	}
}

func TestPromise5ZerosOfPartsAreJoined(t *testing.T) {
	all := stream(5)
	for n := 16; n <= 256; n *= 2 {
		for _, salt := range []int64{0, greatestKey - 1, greatestKey} {
			empty := zeros(salt, make([]int64, n)...)
			put := func(z impl.Zeros, keys []int64) impl.Zeros {
				for _, key := range keys {
					next, ok := impl.PutZeros(z, key)
					wantTrue(t, "PutZeros", ok)
					z = next
				}
				return z
			}
			whole := put(empty, all)
			wantShown(t, "keys twice", shown(put(whole, all)), whole)
			for _, cut := range []int{0, 1, 100, 256} {
				a, b := put(empty, all[:cut]), put(empty, all[cut:])
				wantShown(t, "JoinZeros", wrapped(impl.JoinZeros(a, b)), whole, true)
				wantShown(t, "JoinZeros in the other order", wrapped(impl.JoinZeros(b, a)), whole, true)
				wantShown(t, "PutZeros behind the other part", shown(put(a, all[cut:])), whole)
			}
			count, ok := impl.CountOfZeros(whole)
			exact := float64(len(different(all)))
			wantTrue(t, "CountOfZeros, nearly", ok && float64(count) > exact/3 && float64(count) < exact*3)
		}
	}
}

func TestPromise5LeastHashesOfPartsAreJoined(t *testing.T) {
	for _, all := range [][]int64{nil, {5}, stream(5), someKeys(), repeated(int64(9), 256)} {
		for _, room := range []int64{1, 2, 40, 255, 256} {
			whole, ok := impl.LeastHashes(all, greatestKey, room)
			wantTrue(t, "LeastHashes", ok)
			want := []int64{}
			for _, key := range different(all) {
				hash, _ := impl.HashOf(key, greatestKey)
				want = append(want, hash)
			}
			slices.Sort(want)
			want = want[:min(len(want), int(room))]
			wantShown(t, "LeastHashes", shown(whole), want)
			for _, cut := range []int{0, len(all) / 3, len(all) / 2, len(all)} {
				a, _ := impl.LeastHashes(all[:cut], greatestKey, room)
				b, _ := impl.LeastHashes(all[cut:], greatestKey, room)
				wantShown(t, "JoinLeast", wrapped(impl.JoinLeast(a, b, room)), whole, true)
				wantShown(t, "JoinLeast in the other order", wrapped(impl.JoinLeast(b, a, room)), whole, true)
				wantShown(t, "JoinLeast with all", wrapped(impl.JoinLeast(whole, a, room)), whole, true)
			}
			if len(all) > 0 {
				wantShown(t, "MeetOfLeast with itself", wrapped(impl.MeetOfLeast(whole, whole, room)), float32(1), true)
			}
		}
	}
	one, ok := impl.LeastHashes([]int64{5}, 3, 256)
	wantTrue(t, "one key makes one least hash", ok && len(one) == 1)
}

func TestPromise5PeeledCellsDenyNoKey(t *testing.T) {
	peeled := 0
	for _, all := range [][]int64{someKeys(), different(stream(3)), upTo(256)} {
		for _, size := range []int64{1, 2, 3, 20, 64, 127, 128} {
			for _, salt := range []int64{0, 7, greatestKey - 2, greatestKey - 1, greatestKey} {
				for _, n := range []int64{0, 1, 2, size, 2 * size} {
					keys := all[:min(n, int64(len(all)))]
					list, ok := impl.PeelCells(keys, size, salt)
					if !ok {
						wantShown(t, "cells that fail", shown(list), []int64{})
						wantTrue(t, "at most one key never fails", len(keys) > 1)
						continue
					}
					peeled++
					wantShown(t, "how many cells", shown(len(list)), 3*size)
					for _, key := range keys {
						wantShown(t, "InPeeled", wrapped(impl.InPeeled(list, key, salt)), true, true)
					}
				}
			}
		}
	}
	wantTrue(t, "most lists of keys can be peeled", peeled > 400)
}

func TestPromise5MostOtherKeysAreNotPeeled(t *testing.T) {
	list, ok := impl.PeelCells(upTo(200), 100, 7)
	wantTrue(t, "PeelCells", ok)
	wrong := 0
	for key := range int64(2000) {
		if in, _ := impl.InPeeled(list, 1000+key, 7); in {
			wrong++
		}
	}
	wantTrue(t, "few others are in", wrong < 40)
}
