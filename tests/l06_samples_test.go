package tests

import (
	"math"
	"testing"

	"loop.example/g01347/impl"
)

// Salts with which the hashes of some keys, or of indices, are rare ones.
const (
	twoNoneSalt   = 630740391  // twoNone have the hash 0 with it
	twoTopSalt    = 580714070  // twoTop have the hash 2147483648 with it
	topNoneSalt   = 1499897913 // topNone have the hashes 2147483648 and 0 with it
	noShareSalt   = 784251     // the index 3 has the share 0 with it
	fullShareSalt = 2038494    // the index 2 has the greatest share with it
)

// Keys whose hashes are rare ones, made for the document's rule run backwards.
var (
	twoNone = []int64{1363603860, 1690875194}
	twoTop  = []int64{229960732, 2706402488}
	topNone = []int64{2374022099, 3286117598}
)

// wrongSalts are neither salts nor keys.
var wrongSalts = []int64{-1, greatestKey + 1, math.MinInt64, math.MaxInt64}

// notStreamKeys are no streams of keys.
func notStreamKeys() map[string][]int64 {
	return map[string][]int64{
		"nil":              nil,
		"no keys":          {},
		"129 keys":         upTo(129),
		"256 keys":         upTo(256),
		"5000 keys":        repeated(int64(7), 5000),
		"a key below":      {-1},
		"a key above":      {greatestKey + 1},
		"a last key below": {0, 5, -1},
		"a last key above": {0, 5, greatestKey + 1},
		"the least key":    {math.MinInt64, 5},
		"the greatest key": {5, math.MaxInt64},
	}
}

func TestSampleStream(t *testing.T) {
	// Two indices have the same hash with each of the last four salts.
	rows := []struct {
		n          int
		room, salt int64
		want       []int64
	}{
		{1, 1, 0, []int64{0}},
		{2, 1, 0, []int64{1}},
		{2, 5, 1, []int64{0, 1}},
		{5, 1, 0, []int64{3}},
		{5, 2, 0, []int64{3, 4}},
		{5, 3, 0, []int64{1, 3, 4}},
		{5, 4, 0, []int64{1, 2, 3, 4}},
		{5, 5, 0, []int64{0, 1, 2, 3, 4}},
		{5, 6, 0, []int64{0, 1, 2, 3, 4}},
		{5, 128, 0, []int64{0, 1, 2, 3, 4}},
		{10, 3, 7, []int64{1, 8, 9}},
		{10, 3, greatestKey, []int64{0, 1, 7}},
		{10, 3, 2147483648, []int64{4, 8, 9}},
		{10, 4, 3524673, []int64{0, 3, 4, 6}},
		{10, 5, 3524673, []int64{0, 3, 4, 6, 8}},
		{10, 4, 40919358, []int64{0, 1, 3, 7}},
		{10, 5, 40919358, []int64{0, 1, 3, 7, 9}},
		{10, 5, 218801076, []int64{0, 1, 4, 7, 8}},
		{10, 6, 218801076, []int64{0, 1, 3, 4, 7, 8}},
		{10, 2, 280598507, []int64{0, 2}},
		{10, 3, 280598507, []int64{0, 2, 9}},
	}
	for _, row := range rows {
		// Only the indices count, whatever the keys are.
		for _, keys := range [][]int64{upTo(row.n), repeated(int64(greatestKey), row.n), told(row.n, seriesKey)} {
			wantShown(t, "SampleStream", wrapped(impl.SampleStream(keys, row.room, row.salt)), row.want, true)
		}
	}
}

func TestLongSampleStream(t *testing.T) {
	rows := []struct {
		n          int
		room, salt int64
		count, sum int64
	}{
		{128, 1, 5, 1, 115},
		{128, 64, 5, 64, 181981},
		{128, 127, 5, 127, 688030},
		{128, 128, 5, 128, 699008},
		{127, 100, greatestKey, 100, 424769},
		{128, 9, 12345, 9, 3485},
	}
	for _, row := range rows {
		got, ok := impl.SampleStream(told(row.n, seriesKey), row.room, row.salt)
		wantShown(t, "SampleStream of a long stream", shown(len(got), weighed(got), ok), row.count, row.sum, true)
	}
}

// runs has each second number as often as the one before it tells.
func runs(countsAndNumbers ...int64) []int64 {
	list := []int64{}
	for i := 0; i < len(countsAndNumbers); i += 2 {
		list = append(list, repeated(countsAndNumbers[i+1], int(countsAndNumbers[i]))...)
	}
	return list
}

func TestSampleSeen(t *testing.T) {
	from100 := told(24, func(i int64) int64 { return 100 + i })
	rows := []struct {
		keys []int64
		salt int64
		want []int64
	}{
		{[]int64{7, 7}, 1, []int64{7, 7}},
		{[]int64{5}, 0, []int64{5}},
		{[]int64{0, greatestKey}, 0, []int64{0, greatestKey}},
		{[]int64{9, 8, 7, 6, 5}, 0, []int64{9, 8, 8, 6, 6}},
		{[]int64{9, 8, 7, 6, 5}, 3, []int64{9, 9, 7, 7, 7}},
		{[]int64{9, 8, 7, 6, 5}, greatestKey, []int64{9, 9, 9, 9, 9}},
		// The indices 3 and 15, and 9 and 12, have the same hash, the least one up to the latter.
		{from100, 239369400, runs(3, 100, 15, 103, 6, 118)},
		{from100, 306826096, runs(1, 100, 5, 101, 1, 106, 2, 107, 15, 109)},
		{upTo(128), 77, runs(1, 0, 4, 1, 1, 5, 29, 6, 4, 35, 1, 39, 88, 40)},
	}
	for _, row := range rows {
		wantShown(t, "SampleSeen", wrapped(impl.SampleSeen(row.keys, row.salt)), row.want, true)
	}
}

func TestSamplesOfInvalidStreams(t *testing.T) {
	for what, keys := range notStreamKeys() {
		wantShown(t, "SampleStream with "+what, wrapped(impl.SampleStream(keys, 2, 1)), []int64{}, false)
		wantShown(t, "SampleSeen with "+what, wrapped(impl.SampleSeen(keys, 1)), []int64{}, false)
	}
	for _, room := range wrongRoomsOfStreams {
		wantShown(t, "SampleStream with no room", wrapped(impl.SampleStream([]int64{5, 6}, room, 1)), []int64{}, false)
	}
	for _, salt := range wrongSalts {
		wantShown(t, "SampleStream with no salt", wrapped(impl.SampleStream([]int64{5, 6}, 1, salt)), []int64{}, false)
		wantShown(t, "SampleSeen with no salt", wrapped(impl.SampleSeen([]int64{5, 6}, salt)), []int64{}, false)
	}
}

func TestTimeSample(t *testing.T) {
	rows := []struct {
		times, keys      []int64
		time, long, salt int64
		want             int64
	}{
		{[]int64{1, 9}, []int64{5, 6}, 9, 3, 1, 6},
		{[]int64{1, 2, 3}, []int64{5, 6, 7}, 3, 3, 0, 5},
		{[]int64{1, 2, 3}, []int64{5, 6, 7}, 3, 2, 0, 7},
		{[]int64{1, 2, 3}, []int64{5, 6, 7}, 3, 1, 0, 7},
		{[]int64{1, 2, 3}, []int64{5, 6, 7}, 2, 2, 0, 5},
		{[]int64{1, 2, 3}, []int64{5, 6, 7}, 1, impl.MaxTime, 0, 5},
		{[]int64{1, 2, 3}, []int64{5, 6, 7}, 4, 3, 0, 7},
		{[]int64{1, 2, 3}, []int64{5, 6, 7}, 5, 3, 0, 7},
		{[]int64{4, 4, 4, 4}, []int64{5, 6, 7, 8}, 4, 1, 0, 5},
		{[]int64{4, 4, 4, 4}, []int64{8, 7, 6, 5}, 4, 1, 0, 5},
		{[]int64{4, 4, 4, 4}, []int64{8, 7, 6, 5}, 4, 1, 9, 6},
		{[]int64{1, 1}, equalHashes, 1, 1, 0, 21412},
		{[]int64{1, 1}, []int64{140572, 21412}, 1, 1, 0, 140572},
		{[]int64{1, 2}, equalHashes, 2, 1, 0, 140572},
		{[]int64{1, 2}, []int64{140572, 21412}, 2, 2, 0, 140572},
		{[]int64{1, 2, 3}, []int64{140572, 21412, 140572}, 3, 2, 0, 21412},
		{[]int64{2, 3}, []int64{7, 7}, 3, 2, 0, 7},
		{[]int64{0}, []int64{0}, 0, 1, 0, 0},
		{[]int64{0, 1000000}, []int64{3, 4}, impl.MaxTime, impl.MaxTime, 0, 4},
		{[]int64{0, 1, 1000000}, []int64{3, 4, 5}, impl.MaxTime, impl.MaxTime, 1, 5},
		{[]int64{1000000}, []int64{greatestKey}, impl.MaxTime, 1, greatestKey, greatestKey},
		{[]int64{0, 1}, []int64{3, 4}, 0, 1, 5, 3},
		{upTo(128), upTo(128), 127, 128, 3, 32},
		{upTo(128), upTo(128), 127, 20, 3, 115},
		{upTo(128), upTo(128), 300, 200, 3, 115},
		{upTo(128), upTo(128), 30, 200, 3, 15},
	}
	for _, row := range rows {
		got := wrapped(impl.TimeSample(row.times, row.keys, row.time, row.long, row.salt))
		wantShown(t, "TimeSample", got, row.want, true)
	}
}

func TestTimeSampleWithInvalidOnes(t *testing.T) {
	times, keys := []int64{1, 2, 2}, []int64{5, 0, 7}
	wantNone := func(what string, times, keys []int64, time, long, salt int64) {
		wantShown(t, "TimeSample "+what, wrapped(impl.TimeSample(times, keys, time, long, salt)), 0, false)
	}
	wantNone("of late times", times, keys, 0, 9, 1)
	wantNone("of early times", times, keys, 3, 1, 1)
	wantNone("of times that are exactly as old", times, keys, 7, 5, 1)
	wantNone("of none between", []int64{1, 9}, []int64{5, 6}, 8, 7, 1)
	for what, list := range notTimes() {
		wantNone("with "+what, list, repeated(int64(5), len(list)), 5, 5, 1)
		wantNone("late with "+what, list, repeated(int64(5), len(list)), impl.MaxTime, impl.MaxTime, 1)
	}
	for _, n := range []int{0, 1, 2, 4, 128, 5000} {
		wantNone("with another number of keys", times, upTo(n), 2, 5, 1)
		wantNone("with another number of times", repeated(int64(2), n), keys, 2, 5, 1)
	}
	wantNone("of nothing", nil, nil, 2, 5, 1)
	wantNone("of nothing", []int64{}, []int64{}, 2, 5, 1)
	for _, key := range wrongSalts {
		wantNone("with a wrong key", times, []int64{5, key, 7}, 2, 5, 1)
		wantNone("with a wrong key that is too late", times, []int64{5, 6, key}, 1, 5, 1)
		wantNone("with no salt", times, keys, 2, 5, key)
	}
	for _, time := range wrongTimes {
		wantNone("at no time", times, keys, time, impl.MaxTime, 1)
	}
	for _, long := range wrongLongs {
		wantNone("with no long", times, keys, 2, long, 1)
	}
}

// notWeights are no lists of weights.
func notWeights() map[string][]float32 {
	lists := notStreams()
	for _, bits := range []uint32{plusZero, minusZero, leastBits | minusZero, oneBits | minusZero, greatest | minusZero} {
		what := impl.Decimal(int64(bits))
		lists["only "+what] = numbers(bits)
		lists["at first "+what] = numbers(bits, oneBits, oneBits)
		lists["at last "+what] = append(repeated(float32(1), 127), number(bits))
	}
	delete(lists, "129 numbers")
	lists["129 weights"] = repeated(float32(2), 129)
	return lists
}

// shownWeighed shows what WeighedSample returns.
func shownWeighed(weights []float32, room, salt int64) string {
	sample, other, ok := impl.WeighedSample(weights, room, salt)
	return shown(sample, other, ok)
}

func TestWeighedSample(t *testing.T) {
	// The marks of some indices are equal with the salts 212117, 642022 and 1340777.
	rows := []struct {
		weights    []float32
		room, salt int64
		want       []int64
		other      uint32
	}{
		{numbers(oneBits, 0x40000000), 2, 1, []int64{0, 1}, plusZero},
		{numbers(oneBits, 0x40000000), 1, 1, []int64{1}, 0x3fa70938},
		{numbers(oneBits, 0x40000000), 128, 1, []int64{0, 1}, plusZero},
		{numbers(0x40a00000), 1, 0, []int64{0}, plusZero},
		{numbers(0x40a00000), 1, greatestKey, []int64{0}, plusZero},
		{numbers(oneBits, 0x40000000, 0x40400000, 0x40800000, 0x40a00000), 1, 0, []int64{3}, 0x41396b33},
		{numbers(oneBits, 0x40000000, 0x40400000, 0x40800000, 0x40a00000), 2, 0, []int64{3, 4}, 0x40a26269},
		{numbers(oneBits, 0x40000000, 0x40400000, 0x40800000, 0x40a00000), 4, 0, []int64{1, 2, 3, 4}, 0x3f90e8cb},
		{numbers(oneBits, 0x40000000, 0x40400000, 0x40800000, 0x40a00000), 5, 0, []int64{0, 1, 2, 3, 4}, plusZero},
		{numbers(0x42c80000, 0x3c23d70a, oneBits, oneBits, 0x40400000), 3, 9, []int64{0, 3, 4}, 0x4006dbb3},
		{repeated(float32(1), 10), 3, 7, []int64{1, 8, 9}, 0x3fc425c7},
		{numbers(leastBits, leastBits, leastBits), 1, 0, []int64{1}, 0x00000002},
		{numbers(leastBits, 0x00000002, 0x00000003), 2, 0, []int64{1, 2}, leastBits},
		{numbers(mostSubBit, leastPlain), 1, 3, []int64{0}, 0x00fdf4de},
		{repeated(float32(1), 10), 7, 212117, []int64{0, 1, 2, 4, 5, 6, 9}, 0x3fb81792},
		{repeated(float32(1), 10), 8, 212117, []int64{0, 1, 2, 4, 5, 6, 7, 9}, 0x3f905185},
		{numbers(oneBits, oneBits, oneBits, oneBits, oneBits, oneBits, oneBits, 0x3f800001, oneBits, oneBits), 7, 212117, []int64{0, 1, 4, 5, 6, 7, 9}, 0x3fb81792},
		{repeated(float32(1), 10), 7, 642022, []int64{1, 2, 3, 4, 7, 8, 9}, 0x3fb158a0},
		{repeated(float32(1), 10), 8, 642022, []int64{1, 2, 3, 4, 5, 7, 8, 9}, 0x3fa50b43},
		{numbers(oneBits, oneBits, oneBits, oneBits, oneBits, 0x3f800001, oneBits, oneBits, oneBits, oneBits), 7, 642022, []int64{1, 3, 4, 5, 7, 8, 9}, 0x3fb158a0},
		{repeated(float32(1), 10), 5, 1340777, []int64{0, 1, 2, 6, 8}, 0x4027b680},
		{repeated(float32(1), 10), 6, 1340777, []int64{0, 1, 2, 3, 6, 8}, 0x401987bf},
		{numbers(oneBits, oneBits, oneBits, 0x3f800001, oneBits, oneBits, oneBits, oneBits, oneBits, oneBits), 5, 1340777, []int64{1, 2, 3, 6, 8}, 0x4027b680},
		{numbers(oneBits, oneBits, oneBits, 0x737fffff, oneBits), 1, noShareSalt, []int64{3}, 0x40d440b6},
		{numbers(oneBits, oneBits, oneBits, 0x737fffff, oneBits), 5, noShareSalt, []int64{0, 1, 2, 3, 4}, plusZero},
		{numbers(oneBits, oneBits, oneBits, 0x73800000, oneBits), 1, noShareSalt, []int64{3}, 0x40d440b6},
		{numbers(oneBits, oneBits, oneBits, 0x73800000, oneBits), 5, noShareSalt, []int64{0, 1, 2, 3, 4}, plusZero},
		{numbers(oneBits, oneBits, oneBits, 0x73800000, oneBits), 2, noShareSalt, []int64{2, 3}, 0x40266f1b},
		{numbers(0x737fffff, 0x737fffff, 0x737fffff, 0x737fffff), 3, noShareSalt, []int64{1, 2, 3}, 0x73f33145},
		{numbers(oneBits, oneBits, oneBits, oneBits), 3, fullShareSalt, []int64{0, 1, 3}, oneBits},
		{numbers(oneBits, oneBits, oneBits, oneBits), 4, fullShareSalt, []int64{0, 1, 2, 3}, plusZero},
		{numbers(greatest, greatest, greatest), 3, fullShareSalt, []int64{0, 1, 2}, plusZero},
		{numbers(0x40400000, oneBits, 0x40e00000), 2, fullShareSalt, []int64{0, 2}, 0x3fc8522b},
		{numbers(greatest, greatest), 2, 0, []int64{0, 1}, plusZero},
		{numbers(greatest, oneBits), 1, 0, []int64{0}, 0x3fe1ec9c},
		{numbers(oneBits, greatest, greatest), 2, 5, []int64{1, 2}, 0x3fb3d9f0},
	}
	for _, row := range rows {
		wantShown(t, "WeighedSample "+shown(row.weights, row.room, row.salt), shownWeighed(row.weights, row.room, row.salt), row.want, number(row.other), true)
	}
}

func TestWeighedSampleWithInvalidOnes(t *testing.T) {
	none := shown([]int64{}, float32(0), false)
	wantSame(t, "another infinite mark", shownWeighed(numbers(greatest, greatest), 1, 0), none)
	wantSame(t, "another infinite mark of three", shownWeighed(numbers(greatest, greatest, greatest), 2, 5), none)
	wantSame(t, "another infinite mark at last", shownWeighed(numbers(greatest, oneBits, oneBits, greatest), 1, 0), none)
	wantSame(t, "many infinite marks", shownWeighed(repeated(number(greatest), 128), 64, 0), none)
	for what, weights := range notWeights() {
		for _, room := range []int64{1, 128} {
			wantSame(t, "WeighedSample with "+what, shownWeighed(weights, room, 1), none)
		}
	}
	for _, room := range wrongRoomsOfStreams {
		wantSame(t, "WeighedSample with no room", shownWeighed([]float32{1, 2}, room, 1), none)
	}
	for _, salt := range wrongSalts {
		wantSame(t, "WeighedSample with no salt", shownWeighed([]float32{1, 2}, 1, salt), none)
	}
}

func TestSumOfSample(t *testing.T) {
	rows := []struct {
		weights     []float32
		sample      []int64
		least, want uint32
	}{
		{numbers(oneBits, 0x40000000), []int64{0, 1}, 0x3fc00000, 0x40600000},
		{numbers(oneBits, 0x40000000), []int64{0, 1}, plusZero, 0x40400000},
		{numbers(oneBits, 0x40000000), []int64{0, 1}, minusZero, 0x40400000},
		{numbers(oneBits, 0x40000000), []int64{0, 1}, 0x41100000, 0x41900000},
		{numbers(oneBits, 0x40000000), []int64{}, 0x41100000, plusZero},
		{numbers(oneBits, 0x40000000), []int64{}, minusZero, plusZero},
		{numbers(oneBits, 0x40000000), []int64{1}, oneBits, 0x40000000},
		{numbers(oneBits, 0x40000000), []int64{1}, 0x40000000, 0x40000000},
		{numbers(0x40a00000), []int64{0}, plusZero, 0x40a00000},
		{numbers(0x40a00000), []int64{}, plusZero, plusZero},
		{numbers(leastBits), []int64{0}, plusZero, leastBits},
		{numbers(leastBits), []int64{0}, 0x00000002, 0x00000002},
		{numbers(leastBits, leastBits, leastBits), []int64{0, 1, 2}, leastBits, 0x00000003},
		{numbers(0x4b800000, oneBits, oneBits), []int64{0, 1, 2}, plusZero, 0x4b800000},
		{numbers(oneBits, oneBits, 0x4b800000), []int64{0, 1, 2}, plusZero, 0x4b800001},
		{numbers(0x3dcccccd, 0x3e4ccccd, 0x3e99999a, 0x3ecccccd), []int64{0, 2, 3}, 0x3e19999a, 0x3f59999a},
		{numbers(greatest, leastBits), []int64{0}, plusZero, greatest},
		{numbers(greatest, leastBits), []int64{0, 1}, plusZero, greatest},
		{numbers(greatest, oneBits), []int64{1}, greatest, greatest},
		{numbers(greatest, oneBits), []int64{0, 1}, oneBits, greatest},
		{repeated(float32(3), 128), upTo(128), 0x40800000, 0x44000000},
		{repeated(float32(3), 128), []int64{127}, 0x3f000000, 0x40400000},
		{numbers(greatest, 0x72ffffff), []int64{0, 1}, plusZero, greatest},
	}
	for _, row := range rows {
		wantShown(t, "SumOfSample "+shown(row.weights, row.sample, number(row.least)), wrapped(impl.SumOfSample(row.weights, row.sample, number(row.least))), number(row.want), true)
	}
	wantShown(t, "SumOfSample of nil", wrapped(impl.SumOfSample([]float32{1}, nil, 3)), float32(0), true)
}

func TestSumOfSampleWithInvalidOnes(t *testing.T) {
	wantNone := func(what string, weights []float32, sample []int64, least float32) {
		wantShown(t, "SumOfSample "+what, wrapped(impl.SumOfSample(weights, sample, least)), float32(0), false)
	}
	wantNone("that is infinite", numbers(greatest, greatest), []int64{0, 1}, 0)
	wantNone("that is infinite by what is least", []float32{1, 1}, []int64{0, 1}, number(greatest))
	wantNone("that is just infinite", numbers(greatest, 0x73000000), []int64{0, 1}, 0)
	for what, weights := range notWeights() {
		wantNone("with "+what, weights, []int64{0}, 1)
		wantNone("of no indices with "+what, weights, nil, 1)
	}
	some := []float32{1, 2, 3}
	for _, sample := range [][]int64{{1, 0}, {0, 0}, {0, 2, 1}, {1, 2, 2}, {-1}, {-1, 0}, {3}, {0, 3}, {0, 1, 2, 3}, {math.MinInt64}, {0, math.MaxInt64}, upTo(128), upTo(5000)} {
		wantNone("with no indices", some, sample, 1)
	}
	for _, bits := range append([]uint32{leastBits | minusZero, oneBits | minusZero, greatest | minusZero}, notFinite...) {
		wantNone("with nothing that is least", some, []int64{0, 1}, number(bits))
		wantNone("of no indices with nothing that is least", some, nil, number(bits))
	}
}

func TestSeriesOfWeights(t *testing.T) {
	rows := []struct {
		n          int
		room, salt int64
		count, sum int64
		other, all uint32
	}{
		{128, 1, 5, 1, 115, 0x432994db, 0x432994db},
		{128, 64, 5, 64, 182089, 0x4129addd, 0x4429add8},
		{128, 127, 5, 127, 683620, 0x3dfa30c3, 0x441b9774},
		{128, 128, 5, 128, 699008, plusZero, 0x441b9999},
		{127, 100, greatestKey, 100, 425212, 0x40934dd2, 0x4420faaf},
		{100, 10, 12345, 10, 3731, 0x42243599, 0x43cd42ff},
	}
	for _, row := range rows {
		weights := toldNumbers(row.n, func(i int) float32 { return float32((i*i*31+i*17)%101+1) * 0.1 })
		sample, other, one := impl.WeighedSample(weights, row.room, row.salt)
		all, two := impl.SumOfSample(weights, sample, other)
		wantShown(t, "a series", shown(len(sample), weighed(sample), other, all, one, two), row.count, row.sum, number(row.other), number(row.all), true, true)
	}
}

// shownDistinct shows what DistinctSample returns.
func shownDistinct(keys []int64, room, salt int64) string {
	level, sample, ok := impl.DistinctSample(keys, room, salt)
	return shown(level, sample, ok)
}

func TestDistinctSample(t *testing.T) {
	rows := []struct {
		keys              []int64
		room, salt, level int64
		want              []int64
	}{
		{nil, 1, 0, 0, nil},
		{nil, 128, greatestKey, 0, nil},
		{[]int64{9, 4, 9}, 2, 1, 0, []int64{4, 9}},
		{[]int64{9, 4, 9}, 1, 1, 1, nil},
		{[]int64{7, 7, 7}, 1, 0, 0, []int64{7}},
		{[]int64{0}, 1, 0, 0, []int64{0}},
		{[]int64{greatestKey}, 1, greatestKey, 0, []int64{greatestKey}},
		{[]int64{3, 2, 1}, 3, 0, 0, []int64{1, 2, 3}},
		{[]int64{3, 2, 1}, 2, 0, 2, []int64{1, 3}},
		{[]int64{3, 2, 1}, 1, 0, 3, nil},
		{[]int64{5, 4, 3, 2, 1, 0}, 2, 3, 2, []int64{3}},
		{[]int64{5, 4, 3, 2, 1, 0, 5, 4}, 5, 3, 1, []int64{2, 3, 4, 5}},
		{[]int64{5, 4, 3, 2, 1, 0, 5, 4}, 6, 3, 0, []int64{0, 1, 2, 3, 4, 5}},
		{twoNone, 2, twoNoneSalt, 0, twoNone},
		{twoTop, 2, twoTopSalt, 0, twoTop},
		{twoTop, 1, twoTopSalt, 32, nil},
		{topNone, 1, topNoneSalt, 32, topNone[1:]},
		{topNone, 2, topNoneSalt, 0, topNone},
		{[]int64{1363603860, 1690875194, 5}, 2, twoNoneSalt, 3, twoNone},
		{[]int64{1363603860, 1690875194, 5}, 3, twoNoneSalt, 0, []int64{5, 1363603860, 1690875194}},
		{equalHashes, 1, 0, 2, nil},
		{equalHashes, 2, 0, 0, equalHashes},
	}
	for _, row := range rows {
		wantShown(t, "DistinctSample", shownDistinct(row.keys, row.room, row.salt), row.level, row.want, true)
	}
	wantShown(t, "DistinctSample of 128 keys", shownDistinct(upTo(128), 128, 9), 0, upTo(128), true)
	wantShown(t, "DistinctSample of 128 equal keys", shownDistinct(repeated(int64(5), 128), 1, 9), 0, []int64{5}, true)
}

func TestDistinctSampleWithInvalidOnes(t *testing.T) {
	none := shown(0, []int64{}, false)
	wantSame(t, "two keys at level 32", shownDistinct(twoNone, 1, twoNoneSalt), none)
	wantSame(t, "two keys at level 32 among others", shownDistinct(append(upTo(100), twoNone...), 1, twoNoneSalt), none)
	for what, keys := range notStreamKeys() {
		if len(keys) > 0 {
			wantSame(t, "DistinctSample with "+what, shownDistinct(keys, 128, 1), none)
		}
	}
	for _, room := range wrongRoomsOfStreams {
		wantSame(t, "DistinctSample with no room", shownDistinct([]int64{5, 6}, room, 1), none)
		wantSame(t, "DistinctSample of nothing with no room", shownDistinct(nil, room, 1), none)
	}
	for _, salt := range wrongSalts {
		wantSame(t, "DistinctSample with no salt", shownDistinct([]int64{5, 6}, 1, salt), none)
		wantSame(t, "DistinctSample of nothing with no salt", shownDistinct(nil, 1, salt), none)
	}
}

func TestSeriesOfDistinctSamples(t *testing.T) {
	rows := []struct{ n, step, room, salt, level, count, sum int64 }{
		{128, 1, 1, 0, 11, 0, 0},
		{128, 1, 8, 0, 5, 8, 6143291286},
		{128, 1, 64, 5, 2, 36, 364297319836},
		{128, 1, 127, greatestKey, 1, 54, 875623908526},
		{128, 1, 128, 3, 0, 128, 4414059020480},
		{128, 5, 10, 9, 0, 10, 3818604900},
		{127, 3, 30, 7, 2, 29, 977621496130},
	}
	for _, row := range rows {
		keys := told(int(row.n), func(i int64) int64 {
			if row.step == 5 {
				return seriesKey(i * 5 % 50)
			}
			return seriesKey(i * row.step)
		})
		level, sample, ok := impl.DistinctSample(keys, row.room, row.salt)
		wantShown(t, "a series", shown(level, len(sample), weighed(sample), ok), row.level, row.count, row.sum, true)
	}
}

// shownJoined shows what JoinDistinct returns.
func shownJoined(levelA int64, a []int64, levelB int64, b []int64, room, salt int64) string {
	level, sample, ok := impl.JoinDistinct(levelA, a, levelB, b, room, salt)
	return shown(level, sample, ok)
}

func TestJoinDistinct(t *testing.T) {
	rows := []struct {
		levelA            int64
		a                 []int64
		levelB            int64
		b                 []int64
		room, salt, level int64
		want              []int64
	}{
		{0, []int64{4}, 0, []int64{4, 9}, 2, 1, 0, []int64{4, 9}},
		{0, nil, 0, nil, 1, 0, 0, nil},
		{3, nil, 32, nil, 1, 0, 32, nil},
		{32, nil, 0, nil, 128, greatestKey, 32, nil},
		{0, []int64{4}, 0, nil, 1, 1, 0, []int64{4}},
		{0, nil, 0, []int64{4}, 1, 1, 0, []int64{4}},
		{0, []int64{1, 2}, 0, []int64{2, 3}, 3, 0, 0, []int64{1, 2, 3}},
		{0, []int64{1, 2}, 0, []int64{2, 3}, 2, 0, 2, []int64{1, 3}},
		{0, []int64{1}, 0, []int64{2}, 1, 0, 2, []int64{1}},
		{1, []int64{1, 2}, 0, []int64{2, 3}, 2, 0, 2, []int64{1, 3}},
		{0, []int64{1, 2}, 1, []int64{2, 3}, 2, 0, 2, []int64{1, 3}},
		{2, []int64{1, 2}, 0, []int64{2, 3}, 2, 0, 2, []int64{1, 3}},
		{0, []int64{1, 2}, 3, []int64{2, 3}, 2, 0, 3, nil},
		{5, []int64{1, 2, 3}, 4, []int64{6, 7, 8}, 3, 0, 5, nil},
		{0, []int64{1, 2, 3}, 0, []int64{4, 5, 6}, 3, 3, 2, []int64{3, 6}},
		{1, []int64{1, 2, 3}, 1, []int64{4, 5, 6}, 3, 3, 2, []int64{3, 6}},
		{0, []int64{0, 1, 2}, 2, []int64{3, 4, 5}, 6, 3, 2, []int64{3}},
		{32, []int64{1, 2}, 0, []int64{3}, 2, 0, 32, nil},
		{0, twoNone[:1], 0, twoNone[1:], 2, twoNoneSalt, 0, twoNone},
		{32, twoNone[:1], 32, twoNone[1:], 2, twoNoneSalt, 32, twoNone},
		{32, twoNone[:1], 31, twoNone[:1], 1, twoNoneSalt, 32, twoNone[:1]},
		{0, twoTop[:1], 0, twoTop[1:], 1, twoTopSalt, 32, nil},
		{31, twoTop[:1], 31, twoTop[1:], 1, twoTopSalt, 32, nil},
		{31, twoTop[:1], 31, twoTop[1:], 2, twoTopSalt, 31, twoTop},
		{32, twoTop[:1], 0, twoTop[1:], 2, twoTopSalt, 32, nil},
		{0, topNone[:1], 0, topNone[1:], 1, topNoneSalt, 32, topNone[1:]},
		{31, topNone[:1], 30, topNone[1:], 2, topNoneSalt, 31, topNone},
		{31, topNone[:1], 32, topNone[1:], 2, topNoneSalt, 32, topNone[1:]},
		{0, []int64{0}, 0, []int64{greatestKey}, 2, greatestKey, 0, []int64{0, greatestKey}},
	}
	for _, row := range rows {
		wantShown(t, "JoinDistinct", shownJoined(row.levelA, row.a, row.levelB, row.b, row.room, row.salt), row.level, row.want, true)
		wantShown(t, "JoinDistinct in the other order", shownJoined(row.levelB, row.b, row.levelA, row.a, row.room, row.salt), row.level, row.want, true)
	}
}

func TestJoinDistinctWithInvalidOnes(t *testing.T) {
	none := shown(0, []int64{}, false)
	wantNone := func(what string, level int64, list []int64, room, salt int64) {
		t.Helper()
		wantSame(t, "JoinDistinct with "+what, shownJoined(level, list, 0, []int64{4}, room, salt), none)
		wantSame(t, "JoinDistinct with "+what, shownJoined(0, []int64{4}, level, list, room, salt), none)
		wantSame(t, "JoinDistinct with both of "+what, shownJoined(level, list, level, list, room, salt), none)
	}
	for _, level := range []int64{0, 5, 32} {
		wantSame(t, "two keys at level 32", shownJoined(level, twoNone[:1], 0, twoNone[1:], 1, twoNoneSalt), none)
	}
	for _, list := range [][]int64{{2, 1}, {1, 1}, {1, 2, 2}, {1, 3, 2}, {-1}, {-1, 5}, {5, greatestKey + 1}, {math.MinInt64, 5}, {5, math.MaxInt64}, upTo(129), upTo(256), upTo(5000)} {
		for _, level := range []int64{0, 32} {
			wantNone("wrong keys", level, list, 128, 1)
		}
	}
	for _, room := range []int64{1, 2, 3, 127} {
		wantNone("more keys than room", 0, upTo(int(room)+1), room, 1)
		wantNone("more keys than room", 32, upTo(int(room)+1), room, 1)
	}
	for _, level := range []int64{-1, 33, math.MinInt64, math.MaxInt64} {
		wantNone("no level", level, []int64{5}, 2, 1)
		wantNone("no level and no keys", level, nil, 2, 1)
	}
	for _, room := range wrongRoomsOfStreams {
		wantNone("no room", 0, []int64{5}, room, 1)
		wantNone("no room", 0, nil, room, 1)
	}
	for _, salt := range wrongSalts {
		wantNone("no salt", 0, []int64{5}, 3, salt)
	}
}

func TestSeriesOfJoinedSamples(t *testing.T) {
	rows := []struct {
		n, m                       int
		first                      int64
		room, salt, levelA, levelB int64
		level                      int64
		count                      int
		sum                        int64
	}{
		{128, 128, 128, 128, 5, 0, 0, 2, 68, 14346047},
		{128, 128, 64, 128, 5, 0, 0, 1, 104, 25283506},
		{128, 128, 0, 128, 5, 0, 1, 1, 72, 7827683},
		{100, 50, 200, 100, greatestKey, 2, 0, 2, 38, 3730562},
		{20, 20, 1000, 20, 9, 0, 3, 3, 4, 261035},
		{1, 1, 5, 1, 9, 0, 0, 1, 1, 0},
		{128, 127, 1000, 128, 1, 5, 4, 5, 13, 3392160},
	}
	for _, row := range rows {
		a := told(row.n, func(i int64) int64 { return 37 * i })
		b := told(row.m, func(i int64) int64 { return 37 * (i + row.first) })
		level, sample, ok := impl.JoinDistinct(row.levelA, a, row.levelB, b, row.room, row.salt)
		wantShown(t, "a series", shown(level, len(sample), weighed(sample), ok), row.level, row.count, row.sum, true)
	}
}
