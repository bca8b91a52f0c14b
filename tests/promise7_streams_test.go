package tests

import (
	"math"
	"slices"
	"testing"

	"loop.example/g01347/impl"
)

// bitStreams tell for each index the time, and whether the bit is true.
func bitStreams() map[string]func(i int64) (int64, bool) {
	return map[string]func(i int64) (int64, bool){
		"all true":        func(i int64) (int64, bool) { return i, true },
		"all false":       func(i int64) (int64, bool) { return i, false },
		"every third one": func(i int64) (int64, bool) { return i, i%3 == 1 },
		"equal times":     func(i int64) (int64, bool) { return i / 9, i%4 != 2 },
		"one time":        func(int64) (int64, bool) { return 77, true },
		"far apart":       func(i int64) (int64, bool) { return 331 * i, i%5 != 3 },
		"in swarms":       func(i int64) (int64, bool) { return i/50*400 + i%50/9, i*i%7 < 5 },
		"fewer and fewer": func(i int64) (int64, bool) { return i * i / 20, true },
		"more and more":   func(i int64) (int64, bool) { return 40 * int64(math.Sqrt(float64(90*i))), i%11 != 0 },
		"up to the end":   func(i int64) (int64, bool) { return impl.MaxTime - max(2000-2*i, 0), i%2 == 0 },
	}
}

// trueWithin is how many of the times of true bits are later than time less long, and at most time.
func trueWithin(times []int64, time, long int64) int64 {
	count := int64(0)
	for _, at := range times {
		if at > time-long && at <= time {
			count++
		}
	}
	return count
}

// wantCounted checks what a window counts at a time.
func wantCounted(t *testing.T, what string, w impl.Window, times []int64, time int64) {
	t.Helper()
	want := trueWithin(times, time, w.Long)
	low, high, one := impl.BoundsOfWindow(w, time)
	count, two := impl.CountWindow(w, time)
	if !one || !two || low > want || want > high || count < low || count > high {
		t.Fatalf("%s: %d bits were true at %d, and %d, from %d to %d, are told", what, want, time, count, low, high)
	}
	// Only the first bucket is not known, and of it no more than its half is left out.
	if wide := high - low; count != high-(wide+1)/2 || wide > 0 && wide*w.Parts >= high {
		t.Fatalf("%s: %d is told at %d, from %d to %d, in %d parts", what, count, time, low, high, w.Parts)
	}
}

func TestPromise7CountsOfWindowsLieWithinTheirBounds(t *testing.T) {
	for what, tell := range bitStreams() {
		for _, long := range []int64{1, 2, 37, 500, 20000, impl.MaxTime} {
			for _, parts := range []int64{1, 2, 5, 16} {
				w, ok := impl.NewWindow(long, parts)
				wantTrue(t, "NewWindow", ok)
				times := []int64{}
				for i := range int64(1000) {
					time, bit := tell(i)
					next, ok := impl.PutWindow(w, time, bit)
					wantTrue(t, "PutWindow", ok && impl.ValidWindow(next))
					if w = next; bit {
						times = append(times, time)
					}
					if i < 70 || i%41 == 0 {
						wantCounted(t, what, w, times, time)
						wantCounted(t, what+", later", w, times, min(time+long/3, impl.MaxTime))
						wantCounted(t, what+", when the first one is gone", w, times, min(time+max(long-1, 0), impl.MaxTime))
						wantCounted(t, what+", when all are gone", w, times, min(time+long, impl.MaxTime))
					}
				}
			}
		}
	}
}

func TestPromise7WindowsCountUntilTheyAreFull(t *testing.T) {
	for parts, want := range map[int64]int64{16: 3438, 14: 6128, 12: 12786, 10: 38900} {
		w := window(impl.MaxTime, parts, nil, nil)
		for count := int64(1); ; count++ {
			next, ok := impl.PutWindow(w, count, true)
			if !ok {
				// There are 128 Times, and the bit would join none of them.
				wantShown(t, "how many bits are kept", shown(count-1, len(w.Times)), want, 128)
				break
			}
			w = next
			low, high, ok := impl.BoundsOfWindow(w, count)
			if !ok || low > count || high != count {
				t.Fatalf("%d bits in %d parts: got %d to %d, %v", count, parts, low, high, ok)
			}
		}
	}
}

func TestPromise7ExactCountsAreExact(t *testing.T) {
	for what, tell := range bitStreams() {
		for _, n := range []int64{1, 2, 77, 128} {
			times, bits, found := make([]int64, n), make([]bool, n), []int64{}
			for i := range times {
				if times[i], bits[i] = tell(int64(i)); bits[i] {
					found = append(found, times[i])
				}
			}
			for _, time := range []int64{0, times[0], times[n/2], times[n-1], min(times[n-1]+9, impl.MaxTime), impl.MaxTime} {
				for _, long := range []int64{1, 2, 10, 300, impl.MaxTime} {
					wantShown(t, what, wrapped(impl.CountExactly(times, bits, time, long)), trueWithin(found, time, long), true)
				}
			}
		}
	}
}

func TestPromise7DecaysForget(t *testing.T) {
	for _, half := range []float32{0.5, 1, 3, 40, 1000} {
		d, want := impl.Decay{Half: half}, 0.0
		for i := range int64(200) {
			time, x := 3*i, seriesNumber(int(i))
			next, ok := impl.PutDecay(d, time, x)
			want = want*math.Exp2(-float64(time-d.Mark)/float64(half)) + float64(x)
			if d = next; !ok || math.Abs(float64(d.Sum)-want) > 0.01 {
				t.Fatalf("a half of %v: got %v, want %v, nearly", half, d, want)
			}
		}
		other := impl.Decay{Half: half, Sum: 5, Mark: 590}
		both, ok := impl.JoinDecays(d, other)
		wantTrue(t, "JoinDecays", ok && both.Mark == 597 && math.Abs(float64(both.Sum)-want-5*math.Exp2(-7/float64(half))) < 0.01)
	}
}

func TestPromise7LastOnesAreTold(t *testing.T) {
	for _, n := range []int{1, 2, 50, 128} {
		for _, mod := range []int64{2, 5, 1000} {
			list := told(n, func(i int64) int64 { return (i*i*31+i*17)%mod - mod/2 })
			for _, long := range []int64{1, 2, 7, 50, 128} {
				least, _ := impl.LeastOfWindow(list, long)
				greatest, _ := impl.GreatestOfWindow(list, long)
				middle, _ := impl.MiddleOfWindow(list, long)
				often, _ := impl.OftenInWindow(list, long)
				for i := range list {
					wantLast(t, list[max(0, i+1-int(long)):i+1], least[i], greatest[i], middle[i], often[i])
				}
			}
		}
	}
}

// wantLast checks what is told of last ones.
func wantLast(t *testing.T, last []int64, least, greatest, middle, often int64) {
	t.Helper()
	below, above := 0, 0
	for _, n := range last {
		if n < middle {
			below++
		}
		if n > middle {
			above++
		}
	}
	counts := countsOf(last)
	for n, count := range counts {
		if count > counts[often] || count == counts[often] && n < often {
			t.Errorf("%v: %d is told to be there most often", last, often)
		}
	}
	if least != slices.Min(last) || greatest != slices.Max(last) || 2*below >= len(last) || 2*above > len(last) || counts[middle] == 0 {
		t.Errorf("%v: %d, %d and %d are told", last, least, greatest, middle)
	}
}

// hashOf is the hash of a key by the program's own function of chapter 2.
func hashOf(key, salt int64) int64 {
	hash, _ := impl.HashOf(key, salt)
	return hash
}

// wantSet checks that a list is a set of so many indices below n.
func wantSet(t *testing.T, what string, list []int64, count, n int) {
	t.Helper()
	if len(list) != count || count > 0 && (list[0] < 0 || list[count-1] >= int64(n)) {
		t.Errorf("%s: got %v, want %d of %d", what, list, count, n)
	}
	for i := 1; i < len(list); i++ {
		wantTrue(t, what+" is increasing", list[i] > list[i-1])
	}
}

func TestPromise7SamplesOfStreamsHaveOnlyWhatWasThere(t *testing.T) {
	for _, n := range []int{1, 2, 30, 128} {
		keys := stream(int64(n))[:n]
		for salt := range int64(20) {
			seen, ok := impl.SampleSeen(keys, salt)
			wantTrue(t, "SampleSeen", ok && len(seen) == n)
			for i := range keys {
				one, _ := impl.SampleStream(keys[:i+1], 1, salt)
				wantTrue(t, "SampleSeen is the sample of one key", seen[i] == keys[one[0]])
			}
			for _, room := range []int64{1, 2, 29, 128} {
				sample, ok := impl.SampleStream(keys, room, salt)
				wantTrue(t, "SampleStream", ok)
				wantSet(t, "SampleStream", sample, min(n, int(room)), n)
				wantLeastHashes(t, sample, n, salt)
			}
		}
	}
}

// wantLeastHashes checks that no index below n that is not in a sample has a hash less than one in it.
func wantLeastHashes(t *testing.T, sample []int64, n int, salt int64) {
	t.Helper()
	greatest := int64(-1)
	for _, i := range sample {
		greatest = max(greatest, hashOf(i, salt))
	}
	for i := range int64(n) {
		if !slices.Contains(sample, i) && hashOf(i, salt) < greatest {
			t.Errorf("%v, of %d: the hash of %d is less", sample, n, i)
		}
	}
}

func TestPromise7TimeSamplesHaveOnlyWhatWasThere(t *testing.T) {
	keys := stream(7)[:128]
	times := told(128, func(i int64) int64 { return i * i / 7 })
	for salt := range int64(20) {
		for _, time := range []int64{0, 1, 50, 999, 2304, 2310, 5000} {
			for _, long := range []int64{1, 2, 30, 999, impl.MaxTime} {
				there := []int64{}
				for i, key := range keys {
					if times[i] > time-long && times[i] <= time {
						there = append(there, key)
					}
				}
				key, ok := impl.TimeSample(times, keys, time, long, salt)
				wantTrue(t, "TimeSample succeeds if there is a key", ok == (len(there) > 0))
				if !ok {
					continue
				}
				wantTrue(t, "TimeSample has a key that was there", slices.Contains(there, key))
				for _, other := range there {
					wantTrue(t, "TimeSample has the least hash", hashOf(key, salt) <= hashOf(other, salt))
				}
			}
		}
	}
}

func TestPromise7WeighedSamplesHaveOnlyWhatWasThere(t *testing.T) {
	for _, n := range []int{1, 2, 30, 128} {
		weights := toldNumbers(n, func(i int) float32 { return float32(i*i%17+1) / 3 })
		for salt := range int64(20) {
			for _, room := range []int64{1, 2, 29, 127, 128} {
				sample, other, ok := impl.WeighedSample(weights, room, salt)
				wantTrue(t, "WeighedSample", ok)
				wantSet(t, "WeighedSample", sample, min(n, int(room)), n)
				greatest := float32(0)
				for i, weight := range weights {
					share, _ := impl.ShareHash(int64(i), salt)
					mark := weight / (share + 0x1p-24)
					if !slices.Contains(sample, int64(i)) {
						greatest = max(greatest, mark)
					} else if mark < other {
						t.Errorf("%v, of %d: the mark of %d is less than %v", sample, n, i, other)
					}
				}
				wantShown(t, "the greatest other mark", shown(other), greatest)
			}
		}
	}
}

func TestPromise7SumsOfSamplesTellTheSum(t *testing.T) {
	weights := toldNumbers(100, func(i int) float32 { return float32(i*i%17 + 1) })
	sum := 0.0
	for _, weight := range weights {
		sum += float64(weight)
	}
	all, ok := impl.SumOfSample(weights, upTo(100), 0)
	wantShown(t, "the sum of all", shown(all, ok), float32(sum), true)
	for _, room := range []int64{10, 50} {
		mean := 0.0
		for salt := range int64(1000) {
			sample, other, _ := impl.WeighedSample(weights, room, salt)
			told, ok := impl.SumOfSample(weights, sample, other)
			wantTrue(t, "SumOfSample", ok)
			mean += float64(told) / 1000
		}
		wantTrue(t, "the mean of told sums is about the sum", math.Abs(mean-sum) < sum*0.03)
	}
}

// zerosOfKey are the zeros behind the last 1 of the hash of a key.
func zerosOfKey(key, salt int64) int64 {
	zeros, _ := impl.LowZerosOf(hashOf(key, salt))
	return zeros
}

// keysFrom are the different keys of a list with so many zeros, in ascending order.
func keysFrom(level int64, keys []int64, salt int64) []int64 {
	list := slices.DeleteFunc(different(keys), func(key int64) bool { return zerosOfKey(key, salt) < level })
	slices.Sort(list)
	return list
}

func TestPromise7DistinctSamplesHaveOnlyWhatWasThere(t *testing.T) {
	for _, n := range []int{0, 1, 2, 30, 128} {
		keys := stream(int64(n))[:n]
		for salt := range int64(20) {
			for _, room := range []int64{1, 2, 10, 64, 128} {
				level, sample, ok := impl.DistinctSample(keys, room, salt)
				wantTrue(t, "DistinctSample", ok && int64(len(sample)) <= room)
				wantShown(t, "the sample", shown(sample), keysFrom(level, keys, salt))
				wantTrue(t, "no lesser level is enough", level == 0 || int64(len(keysFrom(level-1, keys, salt))) > room)
			}
		}
	}
}

func TestPromise7SamplesOfPartsAreJoinedToThatOfAll(t *testing.T) {
	keys := stream(9)[:128]
	for salt := range int64(20) {
		for _, room := range []int64{1, 2, 10, 64, 128} {
			want := shownDistinct(keys, room, salt)
			for _, cut := range []int{0, 1, 40, 64, 127, 128} {
				levelA, a, _ := impl.DistinctSample(keys[:cut], room, salt)
				levelB, b, _ := impl.DistinctSample(keys[cut:], room, salt)
				wantSame(t, "two parts", shownJoined(levelA, a, levelB, b, room, salt), want)
				wantSame(t, "two parts in the other order", shownJoined(levelB, b, levelA, a, room, salt), want)
				levelC, c, _ := impl.DistinctSample(keys, room, salt)
				wantSame(t, "a part and all", shownJoined(levelA, a, levelC, c, room, salt), want)
			}
			level, sample := int64(0), []int64(nil)
			for i := 0; i < 128; i += 8 {
				other, part, _ := impl.DistinctSample(keys[i:i+8], room, salt)
				next, joined, ok := impl.JoinDistinct(level, sample, other, part, room, salt)
				wantTrue(t, "JoinDistinct", ok)
				level, sample = next, joined
			}
			wantSame(t, "many parts", shown(level, sample, true), want)
		}
	}
}

func TestPromise7JoinedSamplesHaveMoreKeysThanAStream(t *testing.T) {
	a, b := upTo(128), told(128, func(i int64) int64 { return 1000 + i })
	both := slices.Concat(a, b)
	for salt := range int64(20) {
		for _, first := range []int64{0, 1, 2, 5, 32} {
			level, sample, ok := impl.JoinDistinct(first, a, 0, b, 128, salt)
			wantTrue(t, "JoinDistinct", ok && level >= first && len(sample) <= 128)
			wantShown(t, "the sample", shown(sample), keysFrom(level, both, salt))
			wantTrue(t, "no lesser level is enough", level == first || len(keysFrom(level-1, both, salt)) > 128)
		}
	}
}
