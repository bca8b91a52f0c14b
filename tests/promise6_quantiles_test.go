package tests

import (
	"cmp"
	"math"
	"slices"
	"testing"

	"loop.example/g01347/impl"
)

// numberStreams have 256 numbers each, ascending, descending, equal and mixed ones.
func numberStreams() map[string][]float32 {
	return map[string][]float32{
		"ascending":  countUp(256),
		"descending": toldNumbers(256, func(i int) float32 { return float32(-i) }),
		"equal":      repeated(float32(7), 256),
		"zeros":      toldNumbers(256, func(i int) float32 { return number(uint32(i%3%2) << 31) }),
		"few":        toldNumbers(256, func(i int) float32 { return float32(i * i % 5) }),
		"mixed":      toldNumbers(256, seriesNumber),
		"outward":    toldNumbers(256, func(i int) float32 { return float32(i * (1 - i%2*2)) }),
		"far":        toldNumbers(256, func(i int) float32 { return float32(i*77%256-128) * 2e36 }),
	}
}

// ranksAmong are how many numbers are less than x, and how many are at most x.
func ranksAmong(list []float32, x float32) (int64, int64) {
	less, most := int64(0), int64(0)
	for _, y := range list {
		if y < x {
			less++
		}
		if y <= x {
			most++
		}
	}
	return less, most
}

// wantWithinBounds checks all that a summary tells of the ranks of the numbers that were put.
func wantWithinBounds(t *testing.T, what string, s impl.Summary, put []float32) {
	t.Helper()
	wantTrue(t, what+" is valid", impl.ValidSummary(s) && s.Count == int64(len(put)))
	wide := max(1, 2*s.Count/s.Near)
	for _, x := range append(slices.Clone(put), number(greatest), number(greatest|minusZero), 0.3, -7.7) {
		_, most := ranksAmong(put, x)
		if low, high, ok := impl.SummaryRank(s, x); !ok || low > most || most > high || high-low >= wide {
			t.Fatalf("%s: %d numbers are at most %v, and %d to %d, %v are told", what, most, x, low, high, ok)
		}
	}
	for i, x := range s.Values {
		less, most := ranksAmong(put, x)
		low, high, ok := impl.RanksOf(s, int64(i))
		if !ok || most == less || low > most || high <= less || s.Gaps[i]+s.Slacks[i] > wide {
			t.Fatalf("%s: %v has the ranks %d to %d, and %d to %d, %v are told", what, x, less+1, most, low, high, ok)
		}
	}
	for k := int64(1); k <= s.Count; k += 1 + s.Count/64 {
		x, ok := impl.SummaryQuantile(s, (float32(k)-0.5)/float32(s.Count))
		less, most := ranksAmong(put, x)
		if !ok || less+1-k > wide/2 || k-most > wide/2 {
			t.Fatalf("%s: %v, %v is told for the rank %d, and has the ranks %d to %d", what, x, ok, k, less+1, most)
		}
	}
}

func TestPromise6SummariesTellRanksWithinTheirBounds(t *testing.T) {
	for what, list := range numberStreams() {
		for _, near := range []int64{2, 3, 7, 20, 40} {
			s := summary(near, nil, nil, nil)
			for i, x := range list {
				next, ok := impl.PutSummary(s, x)
				wantTrue(t, "PutSummary", ok)
				s = next
				if i%37 == 0 || i == 64 || i == 255 {
					wantWithinBounds(t, what, s, list[:i+1])
				}
			}
			squeezed, ok := impl.SqueezeSummary(s)
			wantTrue(t, "SqueezeSummary", ok && len(squeezed.Values) <= len(s.Values))
			wantWithinBounds(t, what+" and squeezed", squeezed, list)
		}
	}
}

func TestPromise6MergedSummariesTellRanksWithinTheirBounds(t *testing.T) {
	streams := numberStreams()
	for _, near := range []int64{2, 7, 20} {
		for what, a := range streams {
			for other, b := range streams {
				one, _ := impl.SummaryShared([][]float32{a}, near, 1)
				two, _ := impl.SummaryShared([][]float32{b[:100]}, near, 1)
				all := slices.Concat(a, b[:100])
				both, ok := impl.MergeSummaries(one, two)
				wantTrue(t, "MergeSummaries", ok)
				wantWithinBounds(t, what+" merged with "+other, both, all)
				for i, x := range b[100:150] {
					next, ok := impl.PutSummary(both, x)
					wantTrue(t, "PutSummary behind MergeSummaries", ok)
					both, all = next, append(all, b[100+i])
				}
				wantWithinBounds(t, what+" merged with more of "+other, both, all)
			}
		}
	}
}

func TestPromise6AnyNumberOfWorkersMakesTheSameSummary(t *testing.T) {
	all := ordered(numberStreams())
	all = append(append(all, []float32{5}), seriesLists(7, 77)...)
	for _, lists := range [][][]float32{all[:1], all[8:9], all[:2], all[:9], all[5:], all} {
		for _, near := range []int64{2, 20} {
			want, put := impl.Summary{}, []float32{}
			for i, list := range lists {
				part := summary(near, nil, nil, nil)
				for _, x := range list {
					part, _ = impl.PutSummary(part, x)
				}
				if put = append(put, list...); i == 0 {
					want = part
					continue
				}
				want, _ = impl.MergeSummaries(want, part)
			}
			for workers := int64(1); workers <= impl.MaxWorkers; workers++ {
				for range 3 {
					wantShown(t, "SummaryShared", wrapped(impl.SummaryShared(lists, near, workers)), want, true)
				}
			}
			wantWithinBounds(t, "SummaryShared", want, put)
		}
	}
}

// wantStanding checks that levels stand for so many numbers, all of which were put.
func wantStanding(t *testing.T, what string, l impl.Levels, put []float32, count int64) {
	t.Helper()
	wantTrue(t, what+" is valid", impl.ValidLevels(l))
	wantShown(t, what, wrapped(impl.LevelsCount(l)), count, true)
	wantShown(t, what+": all are at most the greatest", wrapped(impl.LevelsRank(l, number(greatest))), count, true)
	for _, list := range l.Lists {
		for _, x := range list {
			if !slices.Contains(put, x) {
				t.Fatalf("%s: %v was never put", what, x)
			}
		}
	}
}

func TestPromise6LevelsStandForAllNumbers(t *testing.T) {
	for what, list := range numberStreams() {
		for _, room := range []int64{2, 4, 10, 62, 64} {
			for _, seed := range []int64{0, 1, greatestKey} {
				l := levels(room, seed, nil)
				for i := range 1000 {
					next, ok := impl.PutLevels(l, list[i%256])
					wantTrue(t, "PutLevels", ok)
					l = next
					if i < 140 || i == 999 {
						wantStanding(t, what, l, list, int64(i+1))
					}
				}
				wantEnds(t, what, l)
			}
		}
	}
}

// wantEnds checks quantiles of levels against the ranks that these tell.
func wantEnds(t *testing.T, what string, l impl.Levels) {
	t.Helper()
	count, _ := impl.LevelsCount(l)
	last := number(greatest | minusZero)
	for k := int64(1); k <= count; k += 1 + count/50 {
		x, one := impl.LevelsQuantile(l, (float32(k)-0.5)/float32(count))
		rank, two := impl.LevelsRank(l, x)
		below, three := impl.LevelsRank(l, math.Nextafter32(x, number(minusInf)))
		if !one || !two || !three || rank < k || below >= k || x < last {
			t.Fatalf("%s: %v has the ranks %d to %d, and is told for %d", what, x, below+1, rank, k)
		}
		last = x
	}
}

func TestPromise6MergedLevelsStandForAllNumbers(t *testing.T) {
	all := slices.Concat(ordered(numberStreams())...)
	for _, room := range []int64{2, 6, 64} {
		for _, n := range []int{0, 1, 100, 333} {
			for _, m := range []int{0, 1, 64, 500} {
				a, b := levels(room, 3, nil), levels(room, 4, nil)
				for i := range n {
					a, _ = impl.PutLevels(a, all[i])
				}
				for i := range m {
					b, _ = impl.PutLevels(b, all[i+1000])
				}
				both, ok := impl.MergeLevels(a, b)
				wantTrue(t, "MergeLevels", ok)
				wantStanding(t, "MergeLevels", both, all, int64(n+m))
			}
		}
	}
}

func TestPromise6LevelsDoubleUpToTheirLimit(t *testing.T) {
	for _, room := range []int64{2, 4, 32, 64} {
		l, count := levels(room, 1, []float32{5}), int64(1)
		for range 40 {
			next, ok := impl.MergeLevels(l, l)
			if !ok {
				break
			}
			l, count = next, 2*count
			wantStanding(t, "MergeLevels", l, []float32{5}, count)
		}
		// Half of the room stands for all of them in the last list.
		wantShown(t, "the last one that is not too great", shown(count), room/2<<15)
	}
}

// errorOfCuts is the sum of the errors of all parts, in 64-bit numbers.
func errorOfCuts(list []float32, cuts []int64) float64 {
	sum, from := 0.0, int64(0)
	for _, to := range append(slices.Clone(cuts), int64(len(list))) {
		mean := 0.0
		for _, x := range list[from:to] {
			mean += float64(x) / float64(to-from)
		}
		for _, x := range list[from:to] {
			sum += (float64(x) - mean) * (float64(x) - mean)
		}
		from = to
	}
	return sum
}

func TestPromise6BestCutsAreNoWorseThanEvenOnes(t *testing.T) {
	for what, stream := range numberStreams() {
		if what == "far" {
			continue // Their squares are infinite.
		}
		for _, n := range []int{1, 2, 3, 10, 63, 64} {
			list, squares := stream[:n], 0.0
			for _, x := range list {
				squares += float64(x) * float64(x)
			}
			for parts := int64(1); parts <= int64(n); parts += 1 + parts/4 {
				cuts, sum, one := impl.BestCuts(list, parts)
				even, two := impl.EvenCuts(list, parts)
				if !one || !two || int64(len(cuts)) != parts-1 || int64(len(even)) != parts-1 {
					t.Fatalf("%s: got %v, %v and %v, %v", what, cuts, one, even, two)
				}
				wantIndices(t, what, cuts, n)
				wantIndices(t, what, even, n)
				best, nearly := errorOfCuts(list, cuts), squares*1e-5
				if best > errorOfCuts(list, even)+nearly || float64(sum) > best+nearly || float64(sum) < best-nearly {
					t.Errorf("%s to %d parts: the error of %v is %v, told as %v, and that of %v is %v", what, parts, cuts, best, sum, even, errorOfCuts(list, even))
				}
			}
		}
	}
}

// wantIndices checks that cuts of n numbers make no empty parts.
func wantIndices(t *testing.T, what string, cuts []int64, n int) {
	t.Helper()
	last := int64(0)
	for _, at := range append(slices.Clone(cuts), int64(n)) {
		wantTrue(t, what+": no part is empty", at > last)
		last = at
	}
}

// allCuts are all lists of parts - 1 indices from first to n - 1.
func allCuts(first, n int64, parts int64) [][]int64 {
	if parts == 1 {
		return [][]int64{nil}
	}
	lists := [][]int64{}
	for at := first; at < n; at++ {
		for _, rest := range allCuts(at+1, n, parts-1) {
			lists = append(lists, append([]int64{at}, rest...))
		}
	}
	return lists
}

func TestPromise6BestCutsAreBest(t *testing.T) {
	for turn := range 20 {
		// Errors of up to 9 integers are exact but for the quotients.
		list := toldNumbers(9, func(i int) float32 { return float32((i*i*7 + i*turn*3 + turn) % 23) })
		for parts := int64(1); parts <= 9; parts++ {
			cuts, _, ok := impl.BestCuts(list, parts)
			wantTrue(t, "BestCuts", ok)
			best := slices.MinFunc(allCuts(1, 9, parts), func(a, b []int64) int {
				return cmp.Compare(errorOfCuts(list, a), errorOfCuts(list, b))
			})
			if got, want := errorOfCuts(list, cuts), errorOfCuts(list, best); got > want+0.001 {
				t.Errorf("%v to %d parts: the error of %v is %v, and that of %v is %v", list, parts, cuts, got, best, want)
			}
		}
	}
}

func TestPromise6ClustersStandForAllNumbers(t *testing.T) {
	for what, list := range numberStreams() {
		for _, room := range []int64{2, 5, 64} {
			c := clusters(room, nil)
			for i, x := range list {
				next, ok := impl.PutCluster(c, x)
				wantTrue(t, "PutCluster", ok && impl.ValidClusters(next))
				c = next
				wantShown(t, what, shown(sumOfList(c.Counts)), i+1)
				wantTrue(t, what+": the first and the last one", c.Means[0] == slices.Min(list[:i+1]) && c.Means[len(c.Means)-1] == slices.Max(list[:i+1]))
			}
			shrunk, ok := impl.ShrinkClusters(c)
			wantTrue(t, "ShrinkClusters", ok && len(shrunk.Means) <= len(c.Means) && sumOfList(shrunk.Counts) == 256)
		}
	}
}
