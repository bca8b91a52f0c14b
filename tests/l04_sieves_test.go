package tests

import (
	"math"
	"strings"
	"testing"

	"loop.example/g01347/impl"
)

// sieve is the sieve with these bits, a digit each, made without the program.
func sieve(rounds, salt int64, digits string) impl.Sieve {
	bits := make([]bool, len(digits), len(digits)+3)
	for i := range bits {
		bits[i] = digits[i] == '1'
	}
	return impl.Sieve{Rounds: rounds, Salt: salt, Bits: bits}
}

// partSieve has size bits, of which the first full ones are true.
func partSieve(rounds, salt int64, size, full int) impl.Sieve {
	return sieve(rounds, salt, strings.Repeat("1", full)+strings.Repeat("0", size-full))
}

// placedSieve has size bits, of which those at these places are true.
func placedSieve(rounds, salt int64, size int, places ...int64) impl.Sieve {
	s := partSieve(rounds, salt, size, 0)
	for _, place := range places {
		s.Bits[place] = true
	}
	return s
}

// invalidSieves pass each limit of sieves by one, and far.
func invalidSieves() map[string]impl.Sieve {
	return map[string]impl.Sieve{
		"the zero struct":   {},
		"no rounds":         sieve(0, 7, "0100"),
		"nine rounds":       sieve(9, 7, "0100"),
		"negative rounds":   sieve(-1, 7, "0100"),
		"the most rounds":   sieve(math.MaxInt64, 7, "0100"),
		"the least rounds":  sieve(math.MinInt64, 7, "0100"),
		"a salt below":      sieve(2, -1, "0100"),
		"a salt above":      sieve(2, greatestKey+1, "0100"),
		"the greatest salt": sieve(2, math.MaxInt64, "0100"),
		"nil bits":          {Rounds: 2, Salt: 7},
		"no bits":           sieve(2, 7, ""),
		"513 bits":          partSieve(2, 7, 513, 5),
		"5000 bits":         partSieve(8, 7, 5000, 5000),
	}
}

func TestValidSieve(t *testing.T) {
	for _, s := range []impl.Sieve{sieve(1, 0, "0"), sieve(1, 0, "1"), sieve(8, greatestKey, "1"), partSieve(8, greatestKey, 512, 0), partSieve(1, 0, 512, 512), sieve(2, 7, "0110")} {
		wantTrue(t, "ValidSieve "+shown(s), impl.ValidSieve(s))
	}
	for what, s := range invalidSieves() {
		wantFalse(t, "ValidSieve with "+what, impl.ValidSieve(s))
	}
}

func TestSameSieve(t *testing.T) {
	some := []impl.Sieve{sieve(2, 7, "0110"), partSieve(8, greatestKey, 512, 77), partSieve(1, 0, 64, 64), partSieve(1, 0, 33, 32), {}, sieve(-3, -9, "1"), partSieve(99, 1<<40, 5000, 4999)}
	for _, s := range some {
		wantTrue(t, "equal ones", impl.SameSieve(s, impl.Sieve{Rounds: s.Rounds, Salt: s.Salt, Bits: append([]bool{}, s.Bits...)}))
		wantFalse(t, "other rounds", impl.SameSieve(s, impl.Sieve{Rounds: s.Rounds + 1, Salt: s.Salt, Bits: s.Bits}))
		wantFalse(t, "another salt", impl.SameSieve(s, impl.Sieve{Rounds: s.Rounds, Salt: s.Salt - 1, Bits: s.Bits}))
		longer := impl.Sieve{Rounds: s.Rounds, Salt: s.Salt, Bits: append(append([]bool{}, s.Bits...), false)}
		wantFalse(t, "a bit more", impl.SameSieve(s, longer) || impl.SameSieve(longer, s))
		for i := range s.Bits {
			other := impl.Sieve{Rounds: s.Rounds, Salt: s.Salt, Bits: append([]bool{}, s.Bits...)}
			other.Bits[i] = !other.Bits[i]
			wantFalse(t, "another bit", impl.SameSieve(s, other) || impl.SameSieve(other, s))
		}
	}
	wantTrue(t, "nil and empty ones", impl.SameSieve(impl.Sieve{Rounds: 2}, sieve(2, 0, "")))
}

func TestNewSieve(t *testing.T) {
	for _, row := range [][3]int64{{1, 1, 0}, {1, 8, greatestKey}, {512, 1, 0}, {512, 8, greatestKey}, {32, 2, 7}} {
		wantShown(t, "NewSieve", wrapped(impl.NewSieve(row[0], row[1], row[2])), partSieve(row[1], row[2], int(row[0]), 0), true)
	}
	for _, row := range [][3]int64{{0, 1, 0}, {-1, 1, 0}, {513, 1, 0}, {math.MaxInt64, 1, 0}, {math.MinInt64, 1, 0}, {4, 0, 0}, {4, 9, 0}, {4, -1, 0}, {4, math.MaxInt64, 0}, {4, 1, -1}, {4, 1, greatestKey + 1}} {
		wantShown(t, "NewSieve", wrapped(impl.NewSieve(row[0], row[1], row[2])), impl.Sieve{}, false)
	}
}

// placesOfKeys are places in sieves and tallies, the salts of some of which pass the greatest one.
func placesOfKeys() []struct {
	size, rounds, salt, key int64
	places                  []int64
} {
	return []struct {
		size, rounds, salt, key int64
		places                  []int64
	}{
		{4, 2, 7, 5, []int64{3, 2}},
		{1, 1, 0, 0, []int64{0}},
		{1, 8, greatestKey, greatestKey, []int64{0, 0, 0, 0, 0, 0, 0, 0}},
		{512, 8, greatestKey, 0, []int64{67, 452, 392, 463, 159, 291, 364, 300}},
		{512, 8, greatestKey - 3, greatestKey, []int64{497, 242, 51, 457, 231, 353, 164, 147}},
		{512, 1, 3, 1 << 31, []int64{367}},
		{64, 8, greatestKey - 6, 123456789, []int64{16, 33, 15, 24, 20, 18, 58, 8}},
		{7, 3, 12, 9, []int64{5, 0, 2}},
		{10, 8, 5, 77, []int64{6, 2, 5, 2, 1, 5, 3, 0}},
		{511, 5, greatestKey - 1, greatestKey, []int64{51, 456, 230, 352, 164}},
		{10, 2, 7, 10, []int64{1, 1}},
		{10, 3, 7, 83, []int64{4, 4, 4}},
		{10, 3, greatestKey, 5, []int64{3, 3, 3}},
	}
}

func TestPutSieve(t *testing.T) {
	for _, row := range placesOfKeys() {
		empty, full := partSieve(row.rounds, row.salt, int(row.size), 0), partSieve(row.rounds, row.salt, int(row.size), int(row.size))
		want := placedSieve(row.rounds, row.salt, int(row.size), row.places...)
		wantShown(t, "PutSieve", wrapped(impl.PutSieve(empty, row.key)), want, true)
		wantShown(t, "PutSieve again", wrapped(impl.PutSieve(want, row.key)), want, true)
		wantShown(t, "PutSieve into a full one", wrapped(impl.PutSieve(full, row.key)), full, true)
	}
	wantShown(t, "PutSieve behind another key", wrapped(impl.PutSieve(sieve(2, 7, "1000"), 5)), sieve(2, 7, "1011"), true)
	for _, key := range []int64{-1, greatestKey + 1, math.MaxInt64, math.MinInt64} {
		wantShown(t, "PutSieve no key", wrapped(impl.PutSieve(sieve(2, 7, "1000"), key)), impl.Sieve{}, false)
		wantShown(t, "InSieve no key", wrapped(impl.InSieve(sieve(2, 7, "1111"), key)), false, false)
	}
}

func TestInSieve(t *testing.T) {
	for _, row := range placesOfKeys() {
		size := int(row.size)
		wantShown(t, "InSieve of an empty one", wrapped(impl.InSieve(partSieve(row.rounds, row.salt, size, 0), row.key)), false, true)
		wantShown(t, "InSieve of a full one", wrapped(impl.InSieve(partSieve(row.rounds, row.salt, size, size), row.key)), true, true)
		wantShown(t, "InSieve with all places", wrapped(impl.InSieve(placedSieve(row.rounds, row.salt, size, row.places...), row.key)), true, true)
		for _, place := range row.places {
			without := partSieve(row.rounds, row.salt, size, size)
			without.Bits[place] = false
			wantShown(t, "InSieve without a place", wrapped(impl.InSieve(without, row.key)), false, true)
		}
	}
}

func TestSieveOf(t *testing.T) {
	rows := []struct {
		rounds, salt int64
		digits       string
	}{
		{2, 7, "0110100111011111"},
		{3, greatestKey - 1, "101010110010101111111111011101111"},
		{8, 0, "0110111111011110111110111010101010011111011111111111111111111101"},
		{1, greatestKey, "0000000010001100000001000000001000000010000001000001010000000011000000000000000000000000000000000001"},
	}
	keys := []int64{}
	for i := range int64(12) {
		keys = append(keys, i*i*66123+i)
	}
	for _, row := range rows {
		empty, want := partSieve(row.rounds, row.salt, len(row.digits), 0), sieve(row.rounds, row.salt, row.digits)
		wantShown(t, "SieveOf", wrapped(impl.SieveOf(empty, keys)), want, true)
		wantShown(t, "SieveOf no more keys", wrapped(impl.SieveOf(want, nil)), want, true)
		wantShown(t, "SieveOf an empty list", wrapped(impl.SieveOf(empty, []int64{})), empty, true)
		wantShown(t, "SieveOf the same keys", wrapped(impl.SieveOf(want, append(keys, keys...))), want, true)
	}
	wantShown(t, "SieveOf 256 keys", wrapped(impl.SieveOf(sieve(8, 0, "0"), upTo(256))), sieve(8, 0, "1"), true)
	for _, list := range [][]int64{upTo(257), {-1}, {5, greatestKey + 1}, {math.MinInt64, 5}} {
		wantShown(t, "SieveOf no keys", wrapped(impl.SieveOf(sieve(2, 7, "1000"), list)), impl.Sieve{}, false)
	}
}

func TestJoinAndMeetSieves(t *testing.T) {
	a, b := sieve(2, 7, "0011"), sieve(2, 7, "0101")
	wantShown(t, "JoinSieves", wrapped(impl.JoinSieves(a, b)), sieve(2, 7, "0111"), true)
	wantShown(t, "MeetSieves", wrapped(impl.MeetSieves(a, b)), sieve(2, 7, "0001"), true)
	wantShown(t, "JoinSieves of one bit", wrapped(impl.JoinSieves(sieve(8, 0, "0"), sieve(8, 0, "1"))), sieve(8, 0, "1"), true)
	wantShown(t, "MeetSieves of one bit", wrapped(impl.MeetSieves(sieve(8, 0, "1"), sieve(8, 0, "0"))), sieve(8, 0, "0"), true)
	low, high := partSieve(8, greatestKey, 512, 300), partSieve(8, greatestKey, 512, 400)
	wantShown(t, "JoinSieves of 512 bits", wrapped(impl.JoinSieves(low, high)), high, true)
	wantShown(t, "MeetSieves of 512 bits", wrapped(impl.MeetSieves(low, high)), low, true)
	for _, other := range []impl.Sieve{sieve(1, 7, "0101"), sieve(3, 7, "0101"), sieve(2, 8, "0101"), sieve(2, 6, "0101"), sieve(2, 7, "010"), sieve(2, 7, "01010"), sieve(2, 7, "")} {
		for _, pair := range [][2]impl.Sieve{{a, other}, {other, a}} {
			wantShown(t, "JoinSieves with "+shown(other), wrapped(impl.JoinSieves(pair[0], pair[1])), impl.Sieve{}, false)
			wantShown(t, "MeetSieves with "+shown(other), wrapped(impl.MeetSieves(pair[0], pair[1])), impl.Sieve{}, false)
		}
	}
}

func TestFullOfSieve(t *testing.T) {
	rows := []struct {
		size, full int
		want       uint32
	}{{1, 0, plusZero}, {1, 1, 0x3f800000}, {4, 1, 0x3e800000}, {3, 1, 0x3eaaaaab}, {7, 6, 0x3f5b6db7}, {33, 24, 0x3f3a2e8c}, {511, 510, 0x3f7f7fc0}, {512, 0, plusZero}, {512, 511, 0x3f7f8000}, {512, 512, 0x3f800000}}
	for _, row := range rows {
		wantShown(t, "FullOfSieve", wrapped(impl.FullOfSieve(partSieve(3, 7, row.size, row.full))), number(row.want), true)
	}
	wantShown(t, "FullOfSieve with true bits at the end", wrapped(impl.FullOfSieve(sieve(2, 7, "0101"))), float32(0.5), true)
}

func TestFalseShare(t *testing.T) {
	rows := []struct {
		size, full int
		rounds     int64
		want       uint32
	}{
		{3, 1, 1, 0x3eaaaaab}, {3, 1, 2, 0x3de38e3a}, {3, 1, 3, 0x3d17b427}, {3, 1, 4, 0x3c4a458a}, {3, 1, 8, 0x391fd1d0},
		{7, 5, 5, 0x3e3e6599}, {7, 5, 8, 0x3d8ac5f2}, {100, 1, 5, 0x2edbe6fe}, {100, 2, 8, 0x28e69593}, {100, 5, 4, 0x36d1b718}, {100, 5, 8, 0x2e2bcc79},
		{512, 300, 8, 0x3c63a162}, {512, 1, 8, 0x1b800000}, {512, 512, 8, 0x3f800000}, {512, 0, 8, plusZero}, {1, 1, 1, 0x3f800000}, {1, 0, 1, plusZero},
	}
	for _, row := range rows {
		wantShown(t, "FalseShare", wrapped(impl.FalseShare(partSieve(row.rounds, 7, row.size, row.full))), number(row.want), true)
	}
}

func TestCountOfSieve(t *testing.T) {
	rows := []struct {
		size, full int
		rounds     int64
		want       uint32
	}{
		{1, 0, 1, plusZero}, {512, 0, 8, plusZero}, {2, 1, 1, 0x3fb17218}, {2, 1, 8, 0x3e317218}, {3, 1, 5, 0x3e791e28}, {7, 1, 3, 0x3eb8289d}, {7, 3, 5, 0x3f4890fa}, {10, 2, 7, 0x3ea336ab}, {10, 9, 7, 0x405285a5},
		{33, 2, 3, 0x3f300ead}, {33, 32, 5, 0x41b89d9b}, {33, 32, 7, 0x4183de4a}, {100, 33, 7, 0x40b71352}, {511, 170, 3, 0x4289cb99}, {511, 510, 7, 0x43e3a0ad}, {512, 511, 1, 0x4547a05b}, {512, 511, 8, 0x43c7a05b},
	}
	for _, row := range rows {
		wantShown(t, "CountOfSieve", wrapped(impl.CountOfSieve(partSieve(row.rounds, 7, row.size, row.full))), number(row.want), true)
	}
	for _, size := range []int{1, 2, 511, 512} {
		wantShown(t, "CountOfSieve of a full one", wrapped(impl.CountOfSieve(partSieve(2, 7, size, size))), float32(0), false)
	}
}

// tally is the tally with these counts, made without the program.
func tally(rounds, salt int64, counts ...int64) impl.Tally {
	return impl.Tally{Rounds: rounds, Salt: salt, Counts: counts}
}

// mostTally is the greatest count of a tally.
const mostTally = 1000000

// invalidTallies pass each limit of tallies by one, and far.
func invalidTallies() map[string]impl.Tally {
	return map[string]impl.Tally{
		"the zero struct":   {},
		"no rounds":         tally(0, 7, 1, 1),
		"nine rounds":       tally(9, 7, 1, 1),
		"the most rounds":   tally(math.MaxInt64, 7, 1, 1),
		"the least rounds":  tally(math.MinInt64, 7, 1, 1),
		"a salt below":      tally(2, -1, 1, 1),
		"a salt above":      tally(2, greatestKey+1, 1, 1),
		"nil counts":        tally(2, 7),
		"no counts":         tally(2, 7, []int64{}...),
		"513 counts":        tally(2, 7, repeated(int64(1), 513)...),
		"5000 counts":       tally(2, 7, repeated(int64(1), 5000)...),
		"a first count":     tally(2, 7, -1, 1),
		"a last count":      tally(2, 7, 1, mostTally+1),
		"the least count":   tally(2, 7, 1, math.MinInt64),
		"the most count":    tally(2, 7, math.MaxInt64, 1),
		"a count elsewhere": tally(1, 3, append(repeated(int64(1), 511), mostTally+1)...),
	}
}

func TestValidTally(t *testing.T) {
	for _, c := range []impl.Tally{tally(1, 0, 0), tally(8, greatestKey, mostTally), tally(8, greatestKey, repeated(int64(mostTally), 512)...), tally(1, 0, make([]int64, 512)...), tally(2, 7, 0, 5, mostTally)} {
		wantTrue(t, "ValidTally "+shown(c), impl.ValidTally(c))
	}
	for what, c := range invalidTallies() {
		wantFalse(t, "ValidTally with "+what, impl.ValidTally(c))
	}
}

func TestPutAndOutTally(t *testing.T) {
	for _, row := range placesOfKeys() {
		before, after := repeated(int64(9), int(row.size)), repeated(int64(9), int(row.size))
		for _, place := range row.places {
			after[place]++
		}
		less, more := tally(row.rounds, row.salt, before...), tally(row.rounds, row.salt, after...)
		wantShown(t, "PutTally", wrapped(impl.PutTally(less, row.key)), more, true)
		wantShown(t, "OutTally", wrapped(impl.OutTally(more, row.key)), less, true)
		for _, place := range row.places {
			low := append([]int64{}, before...)
			low[place] = 4
			wantShown(t, "InTally", wrapped(impl.InTally(tally(row.rounds, row.salt, low...), row.key)), 4, true)
		}
		wantShown(t, "InTally with the same counts", wrapped(impl.InTally(less, row.key)), 9, true)
	}
	for _, key := range []int64{-1, greatestKey + 1, math.MaxInt64, math.MinInt64} {
		wantShown(t, "PutTally no key", wrapped(impl.PutTally(tally(2, 7, 5, 5), key)), impl.Tally{}, false)
		wantShown(t, "OutTally no key", wrapped(impl.OutTally(tally(2, 7, 5, 5), key)), impl.Tally{}, false)
		wantShown(t, "InTally no key", wrapped(impl.InTally(tally(2, 7, 5, 5), key)), 0, false)
	}
}

func TestTallyAtLimits(t *testing.T) {
	none := impl.Tally{}
	full, empty := tally(2, 7, 0, 0, 5, mostTally), tally(2, 7, 9, 9, 0, 5)
	wantShown(t, "PutTally above the limit", wrapped(impl.PutTally(full, 5)), none, false)
	wantShown(t, "PutTally up to the limit", wrapped(impl.PutTally(tally(2, 7, 0, 0, mostTally-1, 5), 5)), tally(2, 7, 0, 0, mostTally, 6), true)
	wantShown(t, "PutTally beside a full count", wrapped(impl.PutTally(tally(2, 7, mostTally, mostTally, 0, 0), 5)), tally(2, 7, mostTally, mostTally, 1, 1), true)
	wantShown(t, "OutTally below 0", wrapped(impl.OutTally(empty, 5)), none, false)
	wantShown(t, "OutTally down to 0", wrapped(impl.OutTally(tally(2, 7, 0, 0, 1, 1), 5)), tally(2, 7, 0, 0, 0, 0), true)
	wantShown(t, "OutTally of the limit", wrapped(impl.OutTally(full, 5)), tally(2, 7, 0, 0, 4, mostTally-1), true)
	wantShown(t, "InTally at 0", wrapped(impl.InTally(empty, 5)), 0, true)
	wantShown(t, "InTally at the limit", wrapped(impl.InTally(tally(2, 7, 0, 0, mostTally, mostTally), 5)), mostTally, true)
	// The key 83 has one place three times, the key 10 has one twice.
	one := func(rounds, place, count int64) impl.Tally {
		c := tally(rounds, 7, make([]int64, 10)...)
		c.Counts[place] = count
		return c
	}
	wantShown(t, "three times up to the limit", wrapped(impl.PutTally(one(3, 4, mostTally-3), 83)), one(3, 4, mostTally), true)
	wantShown(t, "three times above the limit", wrapped(impl.PutTally(one(3, 4, mostTally-2), 83)), none, false)
	wantShown(t, "three times down to 0", wrapped(impl.OutTally(one(3, 4, 3), 83)), one(3, 4, 0), true)
	wantShown(t, "three times below 0", wrapped(impl.OutTally(one(3, 4, 2), 83)), none, false)
	wantShown(t, "twice above the limit", wrapped(impl.PutTally(one(2, 1, mostTally-1), 10)), none, false)
	wantShown(t, "twice below 0", wrapped(impl.OutTally(one(2, 1, 1), 10)), none, false)
	wantShown(t, "twice is one count", wrapped(impl.InTally(one(2, 1, 5), 10)), 5, true)
	wide := tally(8, greatestKey, mostTally-7)
	wantShown(t, "one count and eight rounds", wrapped(impl.PutTally(wide, 3)), none, false)
	wantShown(t, "one count and eight rounds", wrapped(impl.OutTally(wide, 3)), tally(8, greatestKey, mostTally-15), true)
}
