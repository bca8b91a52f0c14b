package tests

import (
	"math"
	"testing"

	"loop.example/g01347/impl"
)

func awkwardFloatLists(payload uint32) [][]float32 {
	lists := [][]float32{{5}, {3, 1, 2, 2}, numbers(plusZero, minusZero, plusZero), countUp(64), countUp(65), countUp(256), repeated(number(greatest), 256), repeated(float32(1e19), 8), numbers(greatest|minusZero, leastBits, greatest), awkwardNumbers(payload), numbers(0x3f800000, noNumber|payload)}
	return append(ordered(notLists()), lists...)
}

func awkwardSummaries(payload uint32) []impl.Summary {
	full := evenSummary(66, countUp(64))
	half := evenSummary(66, countUp(33))
	return append(append(ordered(invalidSummaries()), someSummaries()...), full, half, evenSummary(10, numbers(noNumber|payload)), evenSummary(10, []float32{-3e38, 3e38}))
}

func awkwardLevels(payload uint32) []impl.Levels {
	return append(append(ordered(invalidLevels()), someLevels()...), levels(64, 1, countUp(63), countUp(63)), levels(4, 9, numbers(noNumber|payload)), evenLevels(4, 3, 16, 3, 7))
}

func awkwardClusters(payload uint32) []impl.Clusters {
	return append(append(ordered(invalidClusters()), someClusters()...), evenClusters(2, countUp(4)), evenClusters(64, countUp(128)), clusters(2, []float32{-3.4e38, -3e38, 3e38, 3.4e38}, 4, 2, 2, 4), evenClusters(2, numbers(noNumber|payload)))
}

// floatListResults has a line for each function of lists and of cuts.
func floatListResults(payload uint32) []string {
	lines := []string{}
	for _, list := range awkwardFloatLists(payload) {
		lines = append(lines, shown("list", impl.IsList(list)), wrapped(impl.SortedOf(list)))
		for _, x := range awkwardNumbers(payload) {
			lines = append(lines, wrapped(impl.RankIn(list, x)), wrapped(impl.QuantileIn(list, x)))
		}
		for _, parts := range append(wrongParts(len(list)), 1, 2, 3, 64, int64(len(list))) {
			lines = append(lines, shownCuts(list, parts), wrapped(impl.EvenCuts(list, parts)))
		}
		for _, n := range append(awkwardCounts(), 65, 1000, 1001) {
			lines = append(lines, wrapped(impl.SummaryShared([][]float32{list, {3, 4}}, n, 2)), wrapped(impl.SummaryShared([][]float32{{3, 4}, list, list}, 20, n)))
		}
	}
	for _, lists := range [][][]float32{nil, {}, {nil}, make([][]float32, 16), make([][]float32, 5000), seriesLists(16, 256), seriesLists(17, 1)} {
		lines = append(lines, wrapped(impl.SummaryShared(lists, 20, 8)))
	}
	return lines
}

// summaryResults has a line for each function of summaries.
func summaryResults(payload uint32) []string {
	lines := []string{}
	for _, s := range awkwardSummaries(payload) {
		lines = append(lines, shown("summary", impl.ValidSummary(s)), wrapped(impl.SqueezeSummary(s)))
		for _, x := range awkwardNumbers(payload) {
			low, high, ok := impl.SummaryRank(s, x)
			lines = append(lines, shown("rank", low, high, ok), wrapped(impl.PutSummary(s, x)), wrapped(impl.SummaryQuantile(s, x)))
		}
		for _, i := range awkwardIntegers() {
			low, high, ok := impl.RanksOf(s, i)
			lines = append(lines, shown("ranks", low, high, ok))
		}
		for _, other := range awkwardSummaries(payload) {
			lines = append(lines, shown("same", impl.SameSummary(s, other)), wrapped(impl.MergeSummaries(s, other)))
		}
	}
	return lines
}

// levelsResults has a line for each function of levels and clusters.
func levelsResults(payload uint32) []string {
	lines := []string{}
	for _, l := range awkwardLevels(payload) {
		lines = append(lines, shown("levels", impl.ValidLevels(l)), wrapped(impl.LevelsCount(l)))
		for _, x := range awkwardNumbers(payload) {
			lines = append(lines, wrapped(impl.PutLevels(l, x)), wrapped(impl.LevelsRank(l, x)), wrapped(impl.LevelsQuantile(l, x)))
		}
		for _, other := range awkwardLevels(payload) {
			lines = append(lines, wrapped(impl.MergeLevels(l, other)))
		}
	}
	for _, c := range awkwardClusters(payload) {
		lines = append(lines, shown("clusters", impl.ValidClusters(c)), wrapped(impl.ShrinkClusters(c)))
		for _, x := range awkwardNumbers(payload) {
			lines = append(lines, wrapped(impl.PutCluster(c, x)), wrapped(impl.ClustersQuantile(c, x)), wrapped(impl.ClustersBelow(c, x)))
		}
	}
	return lines
}

func TestPromise1QuantilesReturnEqualResults(t *testing.T) {
	for _, results := range []func(uint32) []string{floatListResults, summaryResults, levelsResults} {
		first := results(0)
		for _, payload := range []uint32{0, 0x3fffff} {
			again := results(payload)
			for i := range first {
				wantSame(t, "again", again[i], first[i])
			}
		}
	}
}

func TestPromise1QuantilesKeepLists(t *testing.T) {
	calls := map[string]func(list []float32){
		"IsList":           func(list []float32) { impl.IsList(list) },
		"SortedOf":         func(list []float32) { impl.SortedOf(list) },
		"RankIn":           func(list []float32) { impl.RankIn(list, 2) },
		"QuantileIn":       func(list []float32) { impl.QuantileIn(list, 0.5) },
		"ValidSummary":     func(list []float32) { impl.ValidSummary(evenSummary(4, list)) },
		"SameSummary":      func(list []float32) { impl.SameSummary(evenSummary(4, list), evenSummary(4, list)) },
		"PutSummary":       func(list []float32) { impl.PutSummary(evenSummary(4, list), 3) },
		"SqueezeSummary":   func(list []float32) { impl.SqueezeSummary(evenSummary(4, list)) },
		"RanksOf":          func(list []float32) { impl.RanksOf(evenSummary(4, list), 1) },
		"SummaryRank":      func(list []float32) { impl.SummaryRank(evenSummary(4, list), 3) },
		"SummaryQuantile":  func(list []float32) { impl.SummaryQuantile(evenSummary(4, list), 0.5) },
		"MergeSummaries":   func(list []float32) { impl.MergeSummaries(evenSummary(4, list), evenSummary(4, countUp(5))) },
		"Merge, first":     func(list []float32) { impl.MergeSummaries(evenSummary(4, countUp(5)), evenSummary(4, list)) },
		"MergeItself":      func(list []float32) { impl.MergeSummaries(evenSummary(4, list), evenSummary(4, list)) },
		"SummaryShared":    func(list []float32) { impl.SummaryShared([][]float32{list, list, {7}}, 2, 3) },
		"ValidLevels":      func(list []float32) { impl.ValidLevels(levels(4, 0, list)) },
		"PutLevels":        func(list []float32) { impl.PutLevels(levels(4, 0, list), 3) },
		"PutLevels, few":   func(list []float32) { impl.PutLevels(levels(64, 0, list, list), 3) },
		"LevelsCount":      func(list []float32) { impl.LevelsCount(levels(64, 0, list)) },
		"LevelsRank":       func(list []float32) { impl.LevelsRank(levels(64, 0, list), 3) },
		"LevelsQuantile":   func(list []float32) { impl.LevelsQuantile(levels(64, 0, nil, list), 0.5) },
		"MergeLevels":      func(list []float32) { impl.MergeLevels(levels(4, 0, list), levels(4, 0, list)) },
		"MergeLevels 2":    func(list []float32) { impl.MergeLevels(levels(64, 0, nil, list), levels(64, 0, list, list)) },
		"ValidClusters":    func(list []float32) { impl.ValidClusters(evenClusters(2, list)) },
		"PutCluster":       func(list []float32) { impl.PutCluster(evenClusters(2, list), 3) },
		"PutCluster, no":   func(list []float32) { impl.PutCluster(evenClusters(64, list), 3) },
		"ShrinkClusters":   func(list []float32) { impl.ShrinkClusters(evenClusters(2, list)) },
		"ClustersQuantile": func(list []float32) { impl.ClustersQuantile(evenClusters(2, list), 0.5) },
		"ClustersBelow":    func(list []float32) { impl.ClustersBelow(evenClusters(2, list), 2.5) },
		"BestCuts":         func(list []float32) { impl.BestCuts(list, 2) },
		"EvenCuts":         func(list []float32) { impl.EvenCuts(list, 2) },
	}
	lists := [][]float32{{3, 1, 2}, {1, 2, 4}, {1, 2, 3, 4, 5, 6, 7, 8}, {5}, {5, 5, 5}, numbers(plusZero, minusZero, plusZero), countUp(64), {}, {9, float32(math.Inf(1)), 3}}
	for what, call := range calls {
		for _, list := range lists {
			list = roomy(list)
			before := shown(whole(list))
			call(list)
			wantSame(t, what, shown(whole(list)), before)
		}
	}
}

func TestPromise1QuantilesKeepSummariesAndClusters(t *testing.T) {
	calls := map[string]func(values []float32, gaps, slacks []int64){
		"ValidSummary":     func(v []float32, g, s []int64) { impl.ValidSummary(summary(4, v, g, s)) },
		"SameSummary":      func(v []float32, g, s []int64) { impl.SameSummary(summary(4, v, g, s), summary(4, v, g, s)) },
		"PutSummary":       func(v []float32, g, s []int64) { impl.PutSummary(summary(4, v, g, s), 3) },
		"SqueezeSummary":   func(v []float32, g, s []int64) { impl.SqueezeSummary(summary(4, v, g, s)) },
		"RanksOf":          func(v []float32, g, s []int64) { impl.RanksOf(summary(4, v, g, s), 1) },
		"SummaryRank":      func(v []float32, g, s []int64) { impl.SummaryRank(summary(4, v, g, s), 3) },
		"SummaryQuantile":  func(v []float32, g, s []int64) { impl.SummaryQuantile(summary(4, v, g, s), 0.5) },
		"MergeSummaries":   func(v []float32, g, s []int64) { impl.MergeSummaries(summary(4, v, g, s), summary(4, v, g, s)) },
		"ValidClusters":    func(v []float32, g, _ []int64) { impl.ValidClusters(clusters(2, v, g...)) },
		"PutCluster":       func(v []float32, g, _ []int64) { impl.PutCluster(clusters(2, v, g...), 3) },
		"ShrinkClusters":   func(v []float32, g, _ []int64) { impl.ShrinkClusters(clusters(2, v, g...)) },
		"ClustersQuantile": func(v []float32, g, _ []int64) { impl.ClustersQuantile(clusters(2, v, g...), 0.5) },
		"ClustersBelow":    func(v []float32, g, _ []int64) { impl.ClustersBelow(clusters(2, v, g...), 4) },
	}
	some := append(someSummaries(), evenSummary(4, countUp(4)), evenSummary(2, countUp(64)), summary(4, []float32{1, 2, 3, 4, 5}, []int64{1, 1, 2, 3, 1}, []int64{0, 1, 2, 1, 0}), summary(4, []float32{1, 2}, []int64{2, 1}, []int64{0, -1}))
	for what, call := range calls {
		for _, s := range some {
			values, gaps, slacks := roomy(s.Values), roomy(s.Gaps), roomy(s.Slacks)
			before := shown(whole(values), whole(gaps), whole(slacks))
			call(values, gaps, slacks)
			wantSame(t, what, shown(whole(values), whole(gaps), whole(slacks)), before)
		}
	}
}

func TestPromise1QuantilesKeepListsOfLists(t *testing.T) {
	calls := map[string]func(lists [][]float32){
		"ValidLevels":    func(lists [][]float32) { impl.ValidLevels(levels(4, 0, lists...)) },
		"PutLevels":      func(lists [][]float32) { impl.PutLevels(levels(4, 0, lists...), 3) },
		"LevelsCount":    func(lists [][]float32) { impl.LevelsCount(levels(4, 0, lists...)) },
		"LevelsRank":     func(lists [][]float32) { impl.LevelsRank(levels(4, 0, lists...), 3) },
		"LevelsQuantile": func(lists [][]float32) { impl.LevelsQuantile(levels(4, 0, lists...), 0.5) },
		"MergeLevels":    func(lists [][]float32) { impl.MergeLevels(levels(4, 0, lists...), levels(4, 1, lists...)) },
		"Merge, longer": func(lists [][]float32) {
			impl.MergeLevels(levels(4, 0, lists...), levels(4, 1, make([][]float32, 9)...))
		},
		"SummaryShared": func(lists [][]float32) { impl.SummaryShared(lists, 4, 8) },
	}
	for what, call := range calls {
		lists := append(make([][]float32, 0, 9), roomy([]float32{3, 1, 2}), roomy([]float32{6, 5, 4}), roomy([]float32{9}))
		show := func() string {
			return shown(lists[:9], whole(lists[0]), whole(lists[1]), whole(lists[2]))
		}
		before := show()
		call(lists)
		wantSame(t, what, show(), before)
	}
}

// partsOf are the lists of a summary.
func partsOf(s impl.Summary, ok bool) ([]any, bool) {
	return []any{s.Values, s.Gaps, s.Slacks}, ok
}

// partsOfClusters are the lists of clusters.
func partsOfClusters(c impl.Clusters, ok bool) ([]any, bool) {
	return []any{c.Means, c.Counts}, ok
}

// partsOfLevels are the lists of levels.
func partsOfLevels(l impl.Levels, ok bool) ([]any, bool) {
	lists := []any{}
	for _, list := range l.Lists {
		lists = append(lists, list)
	}
	return lists, ok
}

func TestPromise1QuantilesReturnNewLists(t *testing.T) {
	list, other := roomy([]float32{3, 1, 2}), roomy([]float32{1, 2, 3, 4, 5, 6, 7, 8})
	gaps, slacks := roomy(repeated(int64(1), 8)), roomy(make([]int64, 8))
	s, empty := summary(10, other, gaps, slacks), summary(10, roomy([]float32{}), roomy([]int64{}), roomy([]int64{}))
	l, none := levels(4, 0, list, roomy([]float32{9, 8})), levels(4, 0, roomy([]float32{}))
	args := []any{whole(list), whole(other), whole(gaps), whole(slacks), whole(empty.Values), whole(empty.Gaps), whole(empty.Slacks), whole(none.Lists[0])}
	calls := map[string]func() ([]any, bool){
		"SortedOf":          func() ([]any, bool) { sorted, ok := impl.SortedOf(list); return []any{sorted}, ok },
		"SortedOf in order": func() ([]any, bool) { sorted, ok := impl.SortedOf(other); return []any{sorted}, ok },
		"BestCuts":          func() ([]any, bool) { cuts, _, ok := impl.BestCuts(list, 3); return []any{cuts}, ok },
		"EvenCuts":          func() ([]any, bool) { cuts, ok := impl.EvenCuts(list, 3); return []any{cuts}, ok },
		"PutSummary":        func() ([]any, bool) { return partsOf(impl.PutSummary(s, 9)) },
		"PutSummary first":  func() ([]any, bool) { return partsOf(impl.PutSummary(empty, 9)) },
		"SqueezeSummary":    func() ([]any, bool) { return partsOf(impl.SqueezeSummary(s)) },
		"Squeeze by little": func() ([]any, bool) { return partsOf(impl.SqueezeSummary(summary(2, other, gaps, slacks))) },
		"MergeSummaries":    func() ([]any, bool) { return partsOf(impl.MergeSummaries(s, s)) },
		"Merge with none":   func() ([]any, bool) { return partsOf(impl.MergeSummaries(s, empty)) },
		"Merge to none":     func() ([]any, bool) { return partsOf(impl.MergeSummaries(empty, s)) },
		"SummaryShared":     func() ([]any, bool) { return partsOf(impl.SummaryShared([][]float32{other}, 10, 1)) },
		"PutLevels":         func() ([]any, bool) { return partsOfLevels(impl.PutLevels(l, 7)) },
		"PutLevels, none":   func() ([]any, bool) { return partsOfLevels(impl.PutLevels(none, 7)) },
		"MergeLevels":       func() ([]any, bool) { return partsOfLevels(impl.MergeLevels(l, l)) },
		"MergeLevels, none": func() ([]any, bool) { return partsOfLevels(impl.MergeLevels(l, none)) },
		"MergeLevels, one":  func() ([]any, bool) { return partsOfLevels(impl.MergeLevels(none, l)) },
		"PutCluster":        func() ([]any, bool) { return partsOfClusters(impl.PutCluster(clusters(8, other, gaps...), 7)) },
		"PutCluster shrunk": func() ([]any, bool) { return partsOfClusters(impl.PutCluster(clusters(2, other, gaps...), 7)) },
		"ShrinkClusters":    func() ([]any, bool) { return partsOfClusters(impl.ShrinkClusters(clusters(64, other, gaps...))) },
		"Shrink to fewer":   func() ([]any, bool) { return partsOfClusters(impl.ShrinkClusters(clusters(2, other, gaps...))) },
	}
	for what, call := range calls {
		wantNew(t, what, args, func() []any {
			lists, ok := call()
			wantTrue(t, what, ok)
			return lists
		})
	}
	got, _ := impl.MergeLevels(l, none)
	before := shown(l)
	got.Lists[0] = nil
	wantSame(t, "lists after a change of others", shown(l), before)
}

func TestPromise1QuantilesFailWithZeroValues(t *testing.T) {
	noInteger, noNumber, noTwo := shown(0, false), shown(float32(0), false), shown(0, 0, false)
	noSummary, noLevels, noClusters := shown(impl.Summary{}, false), shown(impl.Levels{}, false), shown(impl.Clusters{}, false)
	for what, s := range invalidSummaries() {
		for i := int64(-1); i < 3; i++ {
			low, high, ok := impl.RanksOf(s, i)
			wantSame(t, "RanksOf with "+what, shown(low, high, ok), noTwo)
		}
		low, high, ok := impl.SummaryRank(s, 2)
		wantSame(t, "SummaryRank with "+what, shown(low, high, ok), noTwo)
		wantSame(t, "SummaryQuantile with "+what, wrapped(impl.SummaryQuantile(s, 0.5)), noNumber)
		wantSame(t, "PutSummary with "+what, wrapped(impl.PutSummary(s, 2)), noSummary)
		wantSame(t, "SqueezeSummary with "+what, wrapped(impl.SqueezeSummary(s)), noSummary)
		valid := evenSummary(max(2, min(1000, s.Near)), []float32{1, 2})
		for _, pair := range [][2]impl.Summary{{s, s}, {s, valid}, {valid, s}} {
			wantSame(t, "MergeSummaries with "+what, wrapped(impl.MergeSummaries(pair[0], pair[1])), noSummary)
		}
	}
	for what, l := range invalidLevels() {
		wantSame(t, "PutLevels with "+what, wrapped(impl.PutLevels(l, 2)), noLevels)
		wantSame(t, "LevelsCount with "+what, wrapped(impl.LevelsCount(l)), noInteger)
		wantSame(t, "LevelsRank with "+what, wrapped(impl.LevelsRank(l, 2)), noInteger)
		wantSame(t, "LevelsQuantile with "+what, wrapped(impl.LevelsQuantile(l, 0.5)), noNumber)
		valid := levels(max(2, min(64, l.Room/2*2)), 0, []float32{1})
		for _, pair := range [][2]impl.Levels{{l, l}, {l, valid}, {valid, l}} {
			wantSame(t, "MergeLevels with "+what, wrapped(impl.MergeLevels(pair[0], pair[1])), noLevels)
		}
	}
	for what, c := range invalidClusters() {
		wantSame(t, "PutCluster with "+what, wrapped(impl.PutCluster(c, 2)), noClusters)
		wantSame(t, "ShrinkClusters with "+what, wrapped(impl.ShrinkClusters(c)), noClusters)
		wantSame(t, "ClustersQuantile with "+what, wrapped(impl.ClustersQuantile(c, 0.5)), noNumber)
		wantSame(t, "ClustersBelow with "+what, wrapped(impl.ClustersBelow(c, 2)), noNumber)
	}
}
