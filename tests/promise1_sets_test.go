package tests

import (
	"math"
	"slices"
	"testing"

	"loop.example/g01347/impl"
)

func awkwardSieves() []impl.Sieve {
	return append(ordered(invalidSieves()), sieve(1, 0, "0"), sieve(8, greatestKey, "1"), sieve(2, 7, "0110"), partSieve(8, greatestKey, 512, 0), partSieve(8, greatestKey, 512, 512), partSieve(3, 5, 33, 32))
}

func awkwardTallies() []impl.Tally {
	return append(ordered(invalidTallies()), tally(1, 0, 0), tally(8, greatestKey, mostTally), tally(8, greatestKey, 8), tally(2, 7, 0, 5, mostTally, 1), tally(8, greatestKey, repeated(int64(mostTally), 512)...), tally(8, greatestKey, make([]int64, 512)...))
}

func awkwardFingers() []impl.Fingers {
	return append(ordered(invalidFingers()), fingers(0, 0, 0), fingers(3, 80, 138), fingers(3, 0, 0, 0, 0, 80, 0, 0, 0), fingers(greatestKey, repeated(int64(255), 256)...), fingers(greatestKey, make([]int64, 256)...), spreadFingers(greatestKey, 256, 91, 6, 45), spreadFingers(7, 256, 43, 57, 97))
}

func awkwardZeros() []impl.Zeros {
	return append(ordered(invalidZeros()), zeros(0, make([]int64, 16)...), zeros(3, repeated(int64(33), 16)...), zeros(greatestKey, repeated(int64(33), 256)...), zeros(3, told(16, func(i int64) int64 { return i })...))
}

func awkwardCellLists() [][]int64 {
	return append(ordered(notPeeled()), []int64{161, 0, 0}, repeated(int64(255), 384), make([]int64, 384), upTo(6))
}

// sieveResults has a line for each function of sieves and tallies.
func sieveResults() []string {
	lines := []string{}
	for _, s := range awkwardSieves() {
		lines = append(lines, shown("sieve", impl.ValidSieve(s)), wrapped(impl.FullOfSieve(s)), wrapped(impl.FalseShare(s)), wrapped(impl.CountOfSieve(s)))
		for _, key := range awkwardKeys() {
			lines = append(lines, wrapped(impl.PutSieve(s, key)), wrapped(impl.InSieve(s, key)))
		}
		for _, list := range awkwardLists() {
			lines = append(lines, wrapped(impl.SieveOf(s, list)))
		}
		for _, other := range awkwardSieves() {
			lines = append(lines, shown("same", impl.SameSieve(s, other)), wrapped(impl.JoinSieves(s, other)), wrapped(impl.MeetSieves(s, other)))
		}
		for _, size := range awkwardCounts() {
			lines = append(lines, wrapped(impl.NewSieve(size, s.Rounds, s.Salt)))
		}
	}
	for _, c := range awkwardTallies() {
		lines = append(lines, shown("tally", impl.ValidTally(c)))
		for _, key := range awkwardKeys() {
			lines = append(lines, wrapped(impl.PutTally(c, key)), wrapped(impl.OutTally(c, key)), wrapped(impl.InTally(c, key)))
		}
	}
	return lines
}

// cellResults has a line for each function of fingers and zeros.
func cellResults() []string {
	lines := []string{}
	for _, f := range awkwardFingers() {
		lines = append(lines, shown("fingers", impl.ValidFingers(f)))
		for _, key := range append(awkwardKeys(), 421, 90) {
			lines = append(lines, wrapped(impl.PutFinger(f, key)), wrapped(impl.InFingers(f, key)), wrapped(impl.OutFinger(f, key)))
		}
	}
	for _, z := range awkwardZeros() {
		lines = append(lines, shown("zeros", impl.ValidZeros(z)), wrapped(impl.CountOfZeros(z)))
		for _, key := range awkwardKeys() {
			lines = append(lines, wrapped(impl.PutZeros(z, key)))
		}
		for _, other := range awkwardZeros() {
			lines = append(lines, wrapped(impl.JoinZeros(z, other)))
		}
	}
	return lines
}

// leastResults has a line for each function of least hashes and peeled cells.
func leastResults() []string {
	lines := []string{}
	for _, list := range awkwardLists() {
		for _, n := range awkwardCounts() {
			lines = append(lines, wrapped(impl.CountOfLeast(list, n)))
			for _, salt := range []int64{-1, 0, greatestKey, greatestKey + 1} {
				lines = append(lines, wrapped(impl.LeastHashes(list, salt, n)), wrapped(impl.PeelCells(list, n, salt)))
			}
			for _, other := range awkwardLists() {
				lines = append(lines, wrapped(impl.JoinLeast(list, other, n)), wrapped(impl.MeetOfLeast(list, other, n)))
			}
		}
	}
	for _, list := range append(awkwardCellLists(), awkwardLists()...) {
		for _, key := range awkwardKeys() {
			for _, salt := range awkwardKeys() {
				lines = append(lines, wrapped(impl.InPeeled(list, key, salt)))
			}
		}
	}
	return lines
}

func TestPromise1SetsReturnEqualResults(t *testing.T) {
	for _, results := range []func() []string{sieveResults, cellResults, leastResults} {
		first, again := results(), results()
		for i := range first {
			wantSame(t, "again", again[i], first[i])
		}
	}
	keys := someKeys()[:200]
	want := wrapped(impl.PeelCells(keys, 128, 7))
	for range 50 {
		wantSame(t, "PeelCells", wrapped(impl.PeelCells(keys, 128, 7)), want)
	}
}

func TestPromise1SetsKeepSieves(t *testing.T) {
	calls := map[string]func(s impl.Sieve){
		"ValidSieve":   func(s impl.Sieve) { impl.ValidSieve(s) },
		"SameSieve":    func(s impl.Sieve) { impl.SameSieve(s, s) },
		"PutSieve":     func(s impl.Sieve) { impl.PutSieve(s, 5) },
		"InSieve":      func(s impl.Sieve) { impl.InSieve(s, 5) },
		"SieveOf":      func(s impl.Sieve) { impl.SieveOf(s, []int64{5, 6}) },
		"JoinSieves":   func(s impl.Sieve) { impl.JoinSieves(s, s) },
		"JoinOthers":   func(s impl.Sieve) { impl.JoinSieves(s, partSieve(s.Rounds, s.Salt, len(s.Bits), len(s.Bits))) },
		"MeetSieves":   func(s impl.Sieve) { impl.MeetSieves(s, partSieve(s.Rounds, s.Salt, len(s.Bits), 0)) },
		"FullOfSieve":  func(s impl.Sieve) { impl.FullOfSieve(s) },
		"FalseShare":   func(s impl.Sieve) { impl.FalseShare(s) },
		"CountOfSieve": func(s impl.Sieve) { impl.CountOfSieve(s) },
	}
	for what, call := range calls {
		for _, s := range []impl.Sieve{sieve(2, 7, "1000"), sieve(2, 7, "0110"), sieve(8, greatestKey, "0"), sieve(0, 7, "1000"), sieve(2, 7, "")} {
			s.Bits = append(s.Bits, true, false, true)[:len(s.Bits)]
			before := shown(s, s.Bits[:cap(s.Bits)])
			call(s)
			wantSame(t, what, shown(s, s.Bits[:cap(s.Bits)]), before)
		}
	}
}

func TestPromise1SetsKeepLists(t *testing.T) {
	calls := map[string]func(list []int64){
		"SieveOf":      func(list []int64) { impl.SieveOf(sieve(2, 7, "1000"), list) },
		"ValidTally":   func(list []int64) { impl.ValidTally(tally(2, 7, list...)) },
		"PutTally":     func(list []int64) { impl.PutTally(tally(2, 7, list...), 5) },
		"OutTally":     func(list []int64) { impl.OutTally(tally(2, 7, list...), 5) },
		"InTally":      func(list []int64) { impl.InTally(tally(2, 7, list...), 5) },
		"ValidFingers": func(list []int64) { impl.ValidFingers(fingers(3, list...)) },
		"PutFinger":    func(list []int64) { impl.PutFinger(fingers(3, list...), 0); impl.PutFinger(fingers(3, list...), 5) },
		"InFingers":    func(list []int64) { impl.InFingers(fingers(3, list...), 0) },
		"OutFinger":    func(list []int64) { impl.OutFinger(fingers(3, list...), 0) },
		"ValidZeros":   func(list []int64) { impl.ValidZeros(zeros(3, list...)) },
		"PutZeros":     func(list []int64) { impl.PutZeros(zeros(3, list...), 8) },
		"JoinZeros":    func(list []int64) { impl.JoinZeros(zeros(3, list...), zeros(3, repeated(int64(33), len(list))...)) },
		"JoinZeros 2":  func(list []int64) { impl.JoinZeros(zeros(3, repeated(int64(33), len(list))...), zeros(3, list...)) },
		"CountOfZeros": func(list []int64) { impl.CountOfZeros(zeros(3, list...)) },
		"LeastHashes":  func(list []int64) { impl.LeastHashes(list, 3, 2) },
		"JoinLeast":    func(list []int64) { impl.JoinLeast(list, []int64{0, 1}, 64) },
		"JoinLeast 2":  func(list []int64) { impl.JoinLeast([]int64{0, 1}, list, 64) },
		"JoinLeast 3":  func(list []int64) { impl.JoinLeast(list, list, 64) },
		"CountOfLeast": func(list []int64) { impl.CountOfLeast(list, 64) },
		"MeetOfLeast":  func(list []int64) { impl.MeetOfLeast(list, []int64{0, 1}, 64) },
		"PeelCells":    func(list []int64) { impl.PeelCells(list, 20, 3) },
		"InPeeled":     func(list []int64) { impl.InPeeled(list, 4, 3) },
	}
	lists := [][]int64{{9, 8, 7, 6}, {80, 9}, {11, 12, 13, 0, 21, 22, 33, 34}, repeated(int64(9), 8), spreadFingers(3, 16, 5, 2, 7).Cells, {3, 5, 9}, {3, 3, 9}, repeated(int64(7), 16), told(16, func(i int64) int64 { return i }), {-1, 5}, {5, 4, greatestKey + 1}}
	for what, call := range calls {
		for _, list := range lists {
			list = roomy(list)
			before := shown(list, whole(list))
			call(list)
			wantSame(t, what, shown(list, whole(list)), before)
		}
	}
}

func TestPromise1SetsReturnNewBits(t *testing.T) {
	s, empty := sieve(2, 7, "0011"), sieve(2, 7, "0000")
	calls := map[string]func() (impl.Sieve, bool){
		"NewSieve":             func() (impl.Sieve, bool) { return impl.NewSieve(4, 2, 7) },
		"PutSieve":             func() (impl.Sieve, bool) { return impl.PutSieve(empty, 5) },
		"PutSieve again":       func() (impl.Sieve, bool) { return impl.PutSieve(s, 5) },
		"SieveOf":              func() (impl.Sieve, bool) { return impl.SieveOf(s, []int64{5}) },
		"SieveOf no keys":      func() (impl.Sieve, bool) { return impl.SieveOf(s, nil) },
		"JoinSieves":           func() (impl.Sieve, bool) { return impl.JoinSieves(s, empty) },
		"JoinSieves of itself": func() (impl.Sieve, bool) { return impl.JoinSieves(s, s) },
		"MeetSieves":           func() (impl.Sieve, bool) { return impl.MeetSieves(s, empty) },
		"MeetSieves of itself": func() (impl.Sieve, bool) { return impl.MeetSieves(s, s) },
	}
	for what, call := range calls {
		want := wrapped(call()) + shown(s.Bits[:cap(s.Bits)], empty.Bits[:cap(empty.Bits)])
		got, ok := call()
		wantTrue(t, what, ok)
		got.Bits = got.Bits[:cap(got.Bits)]
		for i := range got.Bits {
			got.Bits[i] = !got.Bits[i]
		}
		wantSame(t, what, wrapped(call())+shown(s.Bits[:cap(s.Bits)], empty.Bits[:cap(empty.Bits)]), want)
	}
}

func TestPromise1SetsReturnNewLists(t *testing.T) {
	counts, some, full := roomy([]int64{9, 8, 7, 6}), roomy([]int64{0, 0, 0, 0, 80, 0, 0, 0}), roomy([]int64{11, 12, 13, 0, 21, 22, 33, 34})
	runs, keys := roomy(repeated(int64(33), 16)), roomy([]int64{3, 5, 9})
	args := [][]int64{whole(counts), whole(some), whole(full), whole(runs), whole(keys)}
	tallyOf := func(c impl.Tally, ok bool) ([]int64, bool) { return c.Counts, ok }
	fingersOf := func(f impl.Fingers, ok bool) ([]int64, bool) { return f.Cells, ok }
	zerosOf := func(z impl.Zeros, ok bool) ([]int64, bool) { return z.Cells, ok }
	calls := map[string]func() ([]int64, bool){
		"PutTally":           func() ([]int64, bool) { return tallyOf(impl.PutTally(tally(2, 7, counts...), 5)) },
		"OutTally":           func() ([]int64, bool) { return tallyOf(impl.OutTally(tally(2, 7, counts...), 5)) },
		"PutFinger":          func() ([]int64, bool) { return fingersOf(impl.PutFinger(fingers(3, some...), 0)) },
		"PutFinger by kicks": func() ([]int64, bool) { return fingersOf(impl.PutFinger(fingers(3, full...), 0)) },
		"OutFinger":          func() ([]int64, bool) { return fingersOf(impl.OutFinger(fingers(3, some...), 0)) },
		"PutZeros":           func() ([]int64, bool) { return zerosOf(impl.PutZeros(zeros(3, runs...), 8)) },
		"JoinZeros":          func() ([]int64, bool) { return zerosOf(impl.JoinZeros(zeros(3, runs...), zeros(3, runs...))) },
		"LeastHashes":        func() ([]int64, bool) { return impl.LeastHashes(keys, 3, 2) },
		"JoinLeast":          func() ([]int64, bool) { return impl.JoinLeast(keys, []int64{4}, 3) },
		"JoinLeast of none":  func() ([]int64, bool) { return impl.JoinLeast(keys, nil, 3) },
		"JoinLeast to none":  func() ([]int64, bool) { return impl.JoinLeast(nil, keys, 3) },
		"PeelCells":          func() ([]int64, bool) { return impl.PeelCells(keys, 20, 3) },
		"PeelCells of none":  func() ([]int64, bool) { return impl.PeelCells(nil, 20, 3) },
	}
	for what, call := range calls {
		wantNew(t, what, args, func() [][]int64 {
			list, ok := call()
			wantTrue(t, what, ok)
			return [][]int64{list}
		})
	}
}

func TestPromise1SetsFailWithZeroValues(t *testing.T) {
	noNumber, noFloat, noBool, noSieve, noTally := shown(0, false), shown(float32(0), false), shown(false, false), shown(impl.Sieve{}, false), shown(impl.Tally{}, false)
	noFingers, noZeros, noList := shown(impl.Fingers{}, false), shown(impl.Zeros{}, false), shown([]int64{}, false)
	for what, s := range invalidSieves() {
		wantSame(t, "PutSieve with "+what, wrapped(impl.PutSieve(s, 5)), noSieve)
		wantSame(t, "InSieve with "+what, wrapped(impl.InSieve(s, 5)), noBool)
		wantSame(t, "SieveOf with "+what, wrapped(impl.SieveOf(s, nil)), noSieve)
		wantSame(t, "FullOfSieve with "+what, wrapped(impl.FullOfSieve(s)), noFloat)
		wantSame(t, "FalseShare with "+what, wrapped(impl.FalseShare(s)), noFloat)
		wantSame(t, "CountOfSieve with "+what, wrapped(impl.CountOfSieve(s)), noFloat)
		wantSame(t, "NewSieve with "+what, wrapped(impl.NewSieve(int64(len(s.Bits)), s.Rounds, s.Salt)), noSieve)
		for _, pair := range [][2]impl.Sieve{{s, s}, {s, sieve(2, 7, "0100")}, {sieve(2, 7, "0100"), s}} {
			wantSame(t, "JoinSieves with "+what, wrapped(impl.JoinSieves(pair[0], pair[1])), noSieve)
			wantSame(t, "MeetSieves with "+what, wrapped(impl.MeetSieves(pair[0], pair[1])), noSieve)
		}
	}
	for what, c := range invalidTallies() {
		wantSame(t, "PutTally with "+what, wrapped(impl.PutTally(c, 5)), noTally)
		wantSame(t, "OutTally with "+what, wrapped(impl.OutTally(c, 5)), noTally)
		wantSame(t, "InTally with "+what, wrapped(impl.InTally(c, 5)), noNumber)
	}
	for what, f := range invalidFingers() {
		wantSame(t, "PutFinger with "+what, wrapped(impl.PutFinger(f, 5)), noFingers)
		wantSame(t, "InFingers with "+what, wrapped(impl.InFingers(f, 5)), noBool)
		wantSame(t, "OutFinger with "+what, wrapped(impl.OutFinger(f, 5)), noFingers)
	}
	for what, z := range invalidZeros() {
		wantSame(t, "PutZeros with "+what, wrapped(impl.PutZeros(z, 8)), noZeros)
		wantSame(t, "CountOfZeros with "+what, wrapped(impl.CountOfZeros(z)), noFloat)
		valid := zeros(3, make([]int64, max(16, min(256, len(z.Cells))))...)
		for _, pair := range [][2]impl.Zeros{{z, z}, {z, valid}, {valid, z}} {
			wantSame(t, "JoinZeros with "+what, wrapped(impl.JoinZeros(pair[0], pair[1])), noZeros)
		}
	}
	for _, list := range notLeast() {
		wantSame(t, "JoinLeast", wrapped(impl.JoinLeast(list, list, 256)), noList)
		wantSame(t, "CountOfLeast", wrapped(impl.CountOfLeast(list, 256)), noFloat)
		wantSame(t, "MeetOfLeast", wrapped(impl.MeetOfLeast(list, list, 256)), noFloat)
	}
	for what, list := range notPeeled() {
		wantSame(t, "InPeeled with "+what, wrapped(impl.InPeeled(list, 4, 3)), noBool)
	}
	for _, n := range []int64{-1, greatestKey + 1, math.MaxInt64, math.MinInt64} {
		keys := slices.Concat([]int64{5}, []int64{n})
		wantSame(t, "SieveOf no keys", wrapped(impl.SieveOf(sieve(2, 7, "0100"), keys)), noSieve)
		wantSame(t, "LeastHashes of no keys", wrapped(impl.LeastHashes(keys, 3, 256)), noList)
		wantSame(t, "PeelCells of no keys", wrapped(impl.PeelCells(keys, 128, 3)), noList)
	}
}
