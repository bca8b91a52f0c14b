package tests

import (
	"math"
	"slices"
	"testing"

	"loop.example/g01347/impl"
)

// summary is the summary with these values, and the sum of the gaps as its count, made without the program.
func summary(near int64, values []float32, gaps, slacks []int64) impl.Summary {
	return impl.Summary{Near: near, Count: sumOfList(gaps), Values: values, Gaps: gaps, Slacks: slacks}
}

// evenSummary has these values, each with the gap 1 and the slack 0.
func evenSummary(near int64, values []float32) impl.Summary {
	return summary(near, values, repeated(int64(1), len(values)), repeated(int64(0), len(values)))
}

// looseSummary has the ranks 1, 4 to 8, 6 to 7, and 10.
func looseSummary() impl.Summary {
	return summary(10, []float32{1, 5, 9, 12}, []int64{1, 3, 2, 4}, []int64{0, 4, 1, 0})
}

// counted is a summary with another count.
func counted(s impl.Summary, count int64) impl.Summary {
	s.Count = count
	return s
}

// seriesNumber is the number with the index i of a series.
func seriesNumber(i int) float32 {
	return float32((i*i*37+i*11)%211)/4 - 20
}

// quarters are four times the numbers of a series, all integers.
func quarters(list []float32) []int64 {
	ints := make([]int64, len(list))
	for i, x := range list {
		ints[i] = int64(4 * x)
	}
	return ints
}

// digest tells a long summary of a series by weighed sums.
func digest(s impl.Summary, ok bool) string {
	return shown(s.Near, s.Count, len(s.Values), weighed(quarters(s.Values)), weighed(s.Gaps), weighed(s.Slacks), ok)
}

// invalidSummaries pass each limit of summaries by one, and far.
func invalidSummaries() map[string]impl.Summary {
	three, ones, none := []float32{1, 2, 3}, []int64{1, 1, 1}, []int64{0, 0, 0}
	invalid := map[string]impl.Summary{
		"the zero struct":         {},
		"a near of 1":             summary(1, three, ones, none),
		"a near of 1001":          summary(1001, three, ones, none),
		"a near of 0":             summary(0, nil, nil, nil),
		"the least near":          summary(math.MinInt64, three, ones, none),
		"the greatest near":       summary(math.MaxInt64, three, ones, none),
		"a count below":           counted(summary(4, nil, nil, nil), -1),
		"a count without values":  counted(summary(4, nil, nil, nil), 1),
		"values without a count":  counted(summary(4, three, ones, none), 0),
		"a count too few":         counted(summary(4, three, ones, none), 2),
		"a count too many":        counted(summary(4, three, ones, none), 4),
		"the greatest count":      counted(summary(4, three, ones, none), math.MaxInt64),
		"the least count":         counted(summary(4, three, ones, none), math.MinInt64),
		"MaxCount passed by one":  summary(4, three, []int64{1, 1, impl.MaxCount - 1}, none),
		"65 values":               evenSummary(4, countUp(65)),
		"5000 values":             evenSummary(4, countUp(5000)),
		"a first one too great":   summary(4, []float32{3, 2, 4}, ones, none),
		"a last one too small":    summary(4, []float32{1, 2, 1.9}, ones, none),
		"nil values":              summary(4, nil, ones, none),
		"nil gaps":                counted(summary(4, three, nil, none), 3),
		"nil slacks":              summary(4, three, ones, nil),
		"a value too few":         summary(4, three[:2], ones, none),
		"a gap too few":           counted(summary(4, three, ones[:2], none), 2),
		"a gap too many":          summary(4, three, []int64{1, 1, 1, 1}, none),
		"a slack too few":         summary(4, three, ones, none[:2]),
		"a slack too many":        summary(4, three, ones, []int64{0, 0, 0, 0}),
		"a first gap of 2":        summary(4, three, []int64{2, 1, 1}, none),
		"one gap of 2":            summary(4, three[:1], []int64{2}, none[:1]),
		"a gap of 0":              summary(4, three, []int64{1, 0, 1}, none),
		"a last gap of 0":         summary(4, three, []int64{1, 1, 0}, none),
		"a gap below":             summary(4, three, []int64{1, -1, 1}, none),
		"gaps with a great sum":   counted(summary(4, []float32{1, 2, 3, 4, 5}, []int64{1, math.MaxInt64, math.MaxInt64, 2, 1}, make([]int64, 5)), 2),
		"the least gap":           counted(summary(4, three, []int64{1, math.MinInt64, 1}, none), 3),
		"a first slack":           summary(4, three, ones, []int64{1, 0, 0}),
		"a last slack":            summary(4, three, ones, []int64{0, 0, 1}),
		"one slack":               summary(4, three[:1], ones[:1], ones[:1]),
		"a slack below":           summary(4, three, ones, []int64{0, -1, 0}),
		"a slack above the count": summary(4, three, ones, []int64{0, 4, 0}),
		"the greatest slack":      summary(4, three, ones, []int64{0, math.MaxInt64, 0}),
	}
	for _, bits := range notFinite {
		what := impl.Decimal(int64(bits))
		invalid["only "+what] = evenSummary(4, numbers(bits))
		invalid["at first "+what] = evenSummary(4, numbers(bits, 0x3f800000))
		invalid["at last "+what] = evenSummary(4, numbers(0x3f800000, 0x3f800000, bits))
	}
	return invalid
}

// someSummaries are valid, some of them at their limits.
func someSummaries() []impl.Summary {
	return []impl.Summary{
		summary(2, nil, nil, nil),
		summary(1000, []float32{}, nil, []int64{}),
		evenSummary(2, []float32{5}),
		evenSummary(1000, numbers(plusZero, minusZero, plusZero)),
		evenSummary(4, numbers(greatest|minusZero, leastBits, greatest)),
		evenSummary(65, countUp(64)),
		evenSummary(4, repeated(float32(7), 64)),
		summary(4, []float32{1, 2}, []int64{1, impl.MaxCount - 1}, []int64{0, 0}),
		summary(4, []float32{1, 2, 3}, []int64{1, 1, impl.MaxCount - 2}, []int64{0, impl.MaxCount, 0}),
		summary(4, []float32{1, 2, 3}, []int64{1, 1, 1}, []int64{0, 3, 0}),
		looseSummary(),
	}
}

func TestValidSummary(t *testing.T) {
	for _, s := range someSummaries() {
		wantTrue(t, "ValidSummary "+shown(s), impl.ValidSummary(s))
	}
	for what, s := range invalidSummaries() {
		wantFalse(t, "ValidSummary with "+what, impl.ValidSummary(s))
	}
}

func TestSameSummary(t *testing.T) {
	a := looseSummary()
	for _, s := range append(someSummaries(), ordered(invalidSummaries())...) {
		other := impl.Summary{Near: s.Near, Count: s.Count, Values: slices.Clone(s.Values), Gaps: slices.Clone(s.Gaps), Slacks: slices.Clone(s.Slacks)}
		wantTrue(t, "equal ones", impl.SameSummary(s, other))
		other.Near++
		wantFalse(t, "another near", impl.SameSummary(s, other))
		wantFalse(t, "another count", impl.SameSummary(s, counted(s, s.Count+1)))
		wantTrue(t, "SameSummary", impl.SameSummary(a, s) == (shown(a) == shown(s)))
	}
	changed := func(change func(s *impl.Summary)) impl.Summary {
		s := looseSummary()
		change(&s)
		return s
	}
	for _, s := range []impl.Summary{
		changed(func(s *impl.Summary) { s.Values[3] = 13 }),
		changed(func(s *impl.Summary) { s.Values = s.Values[:3] }),
		changed(func(s *impl.Summary) { s.Gaps[3] = 5 }),
		changed(func(s *impl.Summary) { s.Gaps = append(s.Gaps, 1) }),
		changed(func(s *impl.Summary) { s.Slacks[0] = 1 }),
		changed(func(s *impl.Summary) { s.Slacks = nil }),
		changed(func(s *impl.Summary) { s.Gaps, s.Slacks = s.Slacks, s.Gaps }),
	} {
		wantFalse(t, "SameSummary of "+shown(s), impl.SameSummary(a, s) || impl.SameSummary(s, a))
	}
	wantFalse(t, "both zeros", impl.SameSummary(evenSummary(4, numbers(plusZero)), evenSummary(4, numbers(minusZero))))
	wantTrue(t, "not-a-numbers", impl.SameSummary(evenSummary(4, numbers(noNumber, 0xffc00001)), evenSummary(4, numbers(0x7f800001, noNumber))))
	wantTrue(t, "nil and empty ones", impl.SameSummary(impl.Summary{}, impl.Summary{Values: []float32{}, Gaps: []int64{}, Slacks: []int64{}}))
}

func TestPutSummary(t *testing.T) {
	loose := looseSummary()
	rows := []struct {
		s    impl.Summary
		x    float32
		want impl.Summary
	}{
		{summary(4, nil, nil, nil), 5, evenSummary(4, []float32{5})},
		{evenSummary(4, []float32{5}), 5, evenSummary(4, []float32{5, 5})},
		{evenSummary(4, []float32{5}), 4, evenSummary(4, []float32{4, 5})},
		{evenSummary(4, []float32{1, 3}), 2, evenSummary(4, []float32{1, 2, 3})},
		{evenSummary(4, numbers(plusZero)), number(minusZero), evenSummary(4, numbers(plusZero, minusZero))},
		{evenSummary(4, numbers(minusZero)), 0, evenSummary(4, numbers(minusZero, plusZero))},
		{evenSummary(4, numbers(minusZero, plusZero, leastBits)), number(minusZero), evenSummary(4, numbers(minusZero, plusZero, minusZero, leastBits))},
		{loose, 0, summary(10, []float32{0, 1, 5, 9, 12}, []int64{1, 1, 3, 2, 4}, []int64{0, 0, 4, 1, 0})},
		{loose, 1, summary(10, []float32{1, 1, 5, 9, 12}, []int64{1, 1, 3, 2, 4}, []int64{0, 6, 4, 1, 0})},
		{loose, 8, summary(10, []float32{1, 5, 8, 9, 12}, []int64{1, 3, 1, 2, 4}, []int64{0, 4, 2, 1, 0})},
		{loose, 11, summary(10, []float32{1, 5, 9, 11, 12}, []int64{1, 3, 2, 1, 4}, []int64{0, 4, 1, 3, 0})},
		{loose, 12, summary(10, []float32{1, 5, 9, 12, 12}, []int64{1, 3, 2, 4, 1}, []int64{0, 4, 1, 0, 0})},
		{evenSummary(1000, countUp(63)), 63, evenSummary(1000, countUp(64))},
		{evenSummary(4, numbers(greatest|minusZero, greatest)), 0, evenSummary(4, numbers(greatest|minusZero, plusZero, greatest))},
	}
	for _, row := range rows {
		wantShown(t, "PutSummary", wrapped(impl.PutSummary(row.s, row.x)), row.want, true)
	}
	for what, s := range invalidSummaries() {
		wantShown(t, "PutSummary with "+what, wrapped(impl.PutSummary(s, 5)), impl.Summary{}, false)
	}
	for _, bits := range notFinite {
		wantShown(t, "PutSummary no finite number", wrapped(impl.PutSummary(loose, number(bits))), impl.Summary{}, false)
	}
}

func TestPutSummaryAtLimits(t *testing.T) {
	two := func(count int64) impl.Summary {
		return summary(4, []float32{1, 2}, []int64{1, count - 1}, []int64{0, 0})
	}
	wantShown(t, "up to MaxCount", wrapped(impl.PutSummary(two(impl.MaxCount-1), 3)), summary(4, []float32{1, 2, 3}, []int64{1, impl.MaxCount - 2, 1}, []int64{0, 0, 0}), true)
	wantShown(t, "above MaxCount", wrapped(impl.PutSummary(two(impl.MaxCount), 3)), impl.Summary{}, false)
	three := func(slack int64) impl.Summary {
		return summary(4, []float32{1, 3, 5}, []int64{1, 3, 1}, []int64{0, slack, 0})
	}
	wantShown(t, "a slack up to the count", wrapped(impl.PutSummary(three(4), 2)), summary(4, []float32{1, 2, 3, 5}, []int64{1, 1, 3, 1}, []int64{0, 6, 4, 0}), true)
	wantShown(t, "a slack above the count", wrapped(impl.PutSummary(three(5), 2)), impl.Summary{}, false)
}

// The room of 65 numbers is 2 with Near 65, and 1 with Near 66.
func TestPutSummaryIntoAFullOne(t *testing.T) {
	odd := toldNumbers(33, func(i int) float32 { return float32(2*i - 1) })
	even := toldNumbers(33, func(i int) float32 { return float32(2 * i) })
	even[32] = 99
	gaps := append([]int64{1}, repeated(int64(2), 32)...)
	wantShown(t, "a first one", wrapped(impl.PutSummary(evenSummary(65, countUp(64)), -1)), summary(65, odd, gaps, make([]int64, 33)), true)
	wantShown(t, "a last one", wrapped(impl.PutSummary(evenSummary(65, countUp(64)), 99)), summary(65, even, gaps, make([]int64, 33)), true)
	wantShown(t, "little room", wrapped(impl.PutSummary(evenSummary(2, countUp(64)), 31.5)), summary(2, []float32{0, 63}, []int64{1, 64}, []int64{0, 0}), true)
	wantShown(t, "some room", wrapped(impl.PutSummary(evenSummary(20, countUp(64)), 31.5)), summary(20, []float32{0, 4, 10, 16, 22, 28, 33, 39, 45, 51, 57, 63}, []int64{1, 4, 6, 6, 6, 6, 6, 6, 6, 6, 6, 6}, make([]int64, 12)), true)
	for _, x := range []float32{-1, 5, 31.5, 99} {
		wantShown(t, "no room", wrapped(impl.PutSummary(evenSummary(66, countUp(64)), x)), impl.Summary{}, false)
		wantShown(t, "no room at all", wrapped(impl.PutSummary(evenSummary(1000, countUp(64)), x)), impl.Summary{}, false)
	}
}

func TestSeriesOfSummaries(t *testing.T) {
	rows := []struct {
		near           int64
		n              int
		told, squeezed string
	}{
		{2, 64, shown(64, 64, 143611, 2080, 0, true), shown(64, 2, 180, 127, 0, true)},
		{2, 65, shown(65, 2, 180, 129, 0, true), shown(65, 2, 180, 129, 0, true)},
		{2, 66, shown(66, 3, 262, 195, 126, true), shown(66, 2, 180, 131, 0, true)},
		{2, 256, shown(256, 4, 735, 1018, 1260, true), shown(256, 2, 180, 511, 0, true)},
		{3, 200, shown(200, 14, 7138, 2213, 9548, true), shown(200, 3, 312, 531, 0, true)},
		{20, 66, shown(66, 13, 5604, 517, 20, true), shown(66, 13, 5604, 517, 20, true)},
		{20, 200, shown(200, 49, 82990, 5309, 10557, true), shown(200, 14, 6857, 1609, 112, true)},
		{20, 256, shown(256, 55, 107790, 7369, 19577, true), shown(256, 13, 6285, 1854, 80, true)},
		{50, 200, shown(200, 49, 79534, 5225, 2219, true), shown(200, 35, 41287, 3761, 394, true)},
		{50, 256, shown(256, 51, 86089, 6889, 3511, true), shown(256, 36, 42174, 5029, 496, true)},
		{65, 66, shown(66, 34, 39912, 1180, 9, true), shown(66, 34, 39912, 1180, 9, true)},
		{1000, 64, shown(64, 64, 143611, 2080, 0, true), shown(64, 64, 143611, 2080, 0, true)},
	}
	for _, row := range rows {
		s := summary(row.near, nil, nil, nil)
		for i := range row.n {
			next, ok := impl.PutSummary(s, seriesNumber(i))
			wantTrue(t, "PutSummary", ok)
			s = next
		}
		wantSame(t, "a series", digest(s, true), shown(row.near)+row.told)
		wantSame(t, "a squeezed series", digest(impl.SqueezeSummary(s)), shown(row.near)+row.squeezed)
	}
}

func TestSqueezeSummary(t *testing.T) {
	rows := []struct{ s, want impl.Summary }{
		{summary(2, nil, nil, nil), summary(2, nil, nil, nil)},
		{evenSummary(2, []float32{5}), evenSummary(2, []float32{5})},
		{evenSummary(2, []float32{5, 6}), evenSummary(2, []float32{5, 6})},
		{evenSummary(2, []float32{5, 6, 7}), summary(2, []float32{5, 7}, []int64{1, 2}, []int64{0, 0})},
		{evenSummary(3, []float32{5, 6, 7}), summary(3, []float32{5, 7}, []int64{1, 2}, []int64{0, 0})},
		{evenSummary(4, []float32{5, 6, 7}), evenSummary(4, []float32{5, 6, 7})},
		{evenSummary(4, []float32{1, 2, 3, 4, 5}), summary(4, []float32{1, 3, 5}, []int64{1, 2, 2}, []int64{0, 0, 0})},
		{evenSummary(5, []float32{1, 2, 3, 4, 5}), summary(5, []float32{1, 3, 5}, []int64{1, 2, 2}, []int64{0, 0, 0})},
		{evenSummary(6, []float32{1, 2, 3, 4, 5}), evenSummary(6, []float32{1, 2, 3, 4, 5})},
		{evenSummary(3, []float32{1, 2, 3, 4, 5}), summary(3, []float32{1, 2, 5}, []int64{1, 1, 3}, []int64{0, 0, 0})},
		{evenSummary(2, numbers(minusZero, plusZero, plusZero, minusZero)), summary(2, numbers(minusZero, minusZero), []int64{1, 3}, []int64{0, 0})},
		{summary(3, []float32{1, 2, 3, 4, 5, 6, 7}, []int64{1, 1, 2, 1, 3, 1, 2}, []int64{0, 1, 0, 2, 0, 1, 0}), summary(3, []float32{1, 3, 7}, []int64{1, 3, 7}, []int64{0, 0, 0})},
		{looseSummary(), looseSummary()},
		{evenSummary(64, countUp(64)), summary(64, append([]float32{0}, toldNumbers(32, func(i int) float32 { return float32(2*i + 1) })...), append([]int64{1, 1}, repeated(int64(2), 31)...), make([]int64, 33))},
		{evenSummary(65, countUp(64)), evenSummary(65, countUp(64))},
		{summary(1000, []float32{1, 2, 3}, []int64{1, 1, impl.MaxCount - 2}, []int64{0, 0, 0}), summary(1000, []float32{1, 2, 3}, []int64{1, 1, impl.MaxCount - 2}, []int64{0, 0, 0})},
		{summary(2, []float32{1, 2, 3}, []int64{1, 1, impl.MaxCount - 2}, []int64{0, impl.MaxCount, 0}), summary(2, []float32{1, 3}, []int64{1, impl.MaxCount - 1}, []int64{0, 0})},
	}
	for _, row := range rows {
		wantShown(t, "SqueezeSummary", wrapped(impl.SqueezeSummary(row.s)), row.want, true)
	}
	// The gap and the slack of the value behind are at most the room, or pass it by one.
	slack := func(slack int64) impl.Summary {
		return summary(4, []float32{1, 2, 3, 4}, []int64{1, 1, 2, 8}, []int64{0, 0, slack, 0})
	}
	wantShown(t, "a slack", wrapped(impl.SqueezeSummary(slack(3))), summary(4, []float32{1, 3, 4}, []int64{1, 3, 8}, []int64{0, 3, 0}), true)
	wantShown(t, "a slack more", wrapped(impl.SqueezeSummary(slack(4))), slack(4), true)
	for what, s := range invalidSummaries() {
		wantShown(t, "SqueezeSummary with "+what, wrapped(impl.SqueezeSummary(s)), impl.Summary{}, false)
	}
}

func TestRanksOf(t *testing.T) {
	rows := []struct {
		s            impl.Summary
		i, low, high int64
	}{
		{looseSummary(), 0, 1, 1},
		{looseSummary(), 1, 4, 8},
		{looseSummary(), 2, 6, 7},
		{looseSummary(), 3, 10, 10},
		{evenSummary(4, []float32{1, 2, 3}), 1, 2, 2},
		{evenSummary(4, []float32{5}), 0, 1, 1},
		{evenSummary(1000, countUp(64)), 63, 64, 64},
		{summary(4, []float32{1, 2, 3}, []int64{1, 1, impl.MaxCount - 2}, []int64{0, impl.MaxCount, 0}), 1, 2, impl.MaxCount + 2},
		{summary(4, []float32{1, 2, 3}, []int64{1, 1, impl.MaxCount - 2}, []int64{0, impl.MaxCount, 0}), 2, impl.MaxCount, impl.MaxCount},
	}
	for _, row := range rows {
		low, high, ok := impl.RanksOf(row.s, row.i)
		wantShown(t, "RanksOf "+impl.Decimal(row.i), shown(low, high, ok), row.low, row.high, true)
	}
	for _, s := range someSummaries() {
		for _, i := range []int64{-1, int64(len(s.Values)), int64(len(s.Values)) + 1, math.MaxInt64, math.MinInt64} {
			low, high, ok := impl.RanksOf(s, i)
			wantShown(t, "RanksOf no value", shown(low, high, ok), 0, 0, false)
		}
	}
}

func TestSummaryRank(t *testing.T) {
	some := summary(10, []float32{2, 2, 3}, []int64{1, 2, 1}, []int64{0, 1, 0})
	zeros := evenSummary(4, numbers(minusZero, plusZero, leastBits))
	rows := []struct {
		s         impl.Summary
		x         float32
		low, high int64
	}{
		{looseSummary(), 0.5, 0, 0},
		{looseSummary(), number(greatest | minusZero), 0, 0},
		{looseSummary(), 1, 1, 7},
		{looseSummary(), 4.5, 1, 7},
		{looseSummary(), 5, 4, 6},
		{looseSummary(), 9, 6, 9},
		{looseSummary(), 11.5, 6, 9},
		{looseSummary(), 12, 10, 10},
		{looseSummary(), number(greatest), 10, 10},
		{some, 2, 3, 3},
		{some, 1.9, 0, 0},
		{some, 3, 4, 4},
		{zeros, number(minusZero), 2, 2},
		{zeros, 0, 2, 2},
		{zeros, number(leastBits | minusZero), 0, 0},
		{summary(4, nil, nil, nil), 5, 0, 0},
		{evenSummary(4, []float32{5}), 5, 1, 1},
		{evenSummary(4, []float32{5}), 4, 0, 0},
		{evenSummary(4, countUp(64)), 62.5, 63, 63},
		{summary(4, []float32{1, 2}, []int64{1, impl.MaxCount - 1}, []int64{0, 0}), 1, 1, impl.MaxCount - 1},
		{summary(4, []float32{1, 2}, []int64{1, impl.MaxCount - 1}, []int64{0, 0}), 2, impl.MaxCount, impl.MaxCount},
	}
	for _, row := range rows {
		low, high, ok := impl.SummaryRank(row.s, row.x)
		wantShown(t, "SummaryRank "+shown(row.x), shown(low, high, ok), row.low, row.high, true)
	}
	for _, bits := range notFinite {
		low, high, ok := impl.SummaryRank(looseSummary(), number(bits))
		wantShown(t, "SummaryRank of no finite number", shown(low, high, ok), 0, 0, false)
	}
}

func TestSummaryQuantile(t *testing.T) {
	// The ranks 4 and 8 have two nearest values each, the first of which is told.
	for i, want := range []float32{1, 1, 1, 1, 9, 9, 9, 9, 12, 12} {
		share := (float32(i) + 0.5) / 10
		wantShown(t, "the rank "+impl.Decimal(int64(i+1)), wrapped(impl.SummaryQuantile(looseSummary(), share)), want, true)
	}
	for _, n := range []int{1, 4, 10} {
		for share, k := range sharesOf(n) {
			wantShown(t, "SummaryQuantile", wrapped(impl.SummaryQuantile(evenSummary(7, countUp(n)), number(share))), float32(k-1), true)
		}
	}
	long := summary(2, []float32{1, 2, 3, 4}, []int64{1, 300000, 300000, 399999}, []int64{0, 0, 0, 0})
	rows := []struct {
		share uint32
		want  float32
	}{
		{plusZero, 1}, {leastBits, 1}, {0x3e19999a, 1}, {0x3e1999bb, 1}, {0x3e1999fe, 2}, {0x3ee66666, 2}, {0x3ee66677, 2}, {0x3ee66699, 3}, {0x3f4ccccd, 3}, {0x3f4cccd0, 4}, {0x3f7fffff, 4}, {0x3f800000, 4},
	}
	for _, row := range rows {
		wantShown(t, "MaxCount and the share "+shown(number(row.share)), wrapped(impl.SummaryQuantile(long, number(row.share))), row.want, true)
	}
	wantShown(t, "the first zero", wrapped(impl.SummaryQuantile(evenSummary(4, numbers(minusZero, plusZero)), 0.5)), number(minusZero), true)
	wantShown(t, "the second zero", wrapped(impl.SummaryQuantile(evenSummary(4, numbers(minusZero, plusZero)), 1)), float32(0), true)
	wantShown(t, "an empty one", wrapped(impl.SummaryQuantile(summary(4, nil, nil, nil), 0.5)), float32(0), false)
	for _, bits := range wrongShares {
		wantShown(t, "SummaryQuantile with no share", wrapped(impl.SummaryQuantile(looseSummary(), number(bits))), float32(0), false)
	}
}

func TestMergeSummaries(t *testing.T) {
	a := summary(10, []float32{1, 5, 9}, []int64{1, 3, 2}, []int64{0, 4, 0})
	b := evenSummary(10, []float32{5, 6})
	b.Gaps[1], b.Count = 2, 3
	none := summary(10, nil, nil, nil)
	rows := []struct{ a, b, want impl.Summary }{
		{a, b, summary(10, []float32{1, 5, 5, 6, 9}, []int64{1, 3, 1, 2, 2}, []int64{0, 4, 1, 1, 0})},
		{b, a, summary(10, []float32{1, 5, 5, 6, 9}, []int64{1, 1, 3, 2, 2}, []int64{0, 6, 5, 1, 0})},
		{a, a, summary(10, []float32{1, 1, 5, 5, 9, 9}, []int64{1, 1, 3, 3, 2, 2}, []int64{0, 6, 10, 5, 1, 0})},
		{a, none, a},
		{none, a, a},
		{none, none, none},
		{evenSummary(10, numbers(plusZero, plusZero)), evenSummary(10, numbers(minusZero)), evenSummary(10, numbers(plusZero, plusZero, minusZero))},
		{evenSummary(10, numbers(minusZero)), evenSummary(10, numbers(plusZero, plusZero)), evenSummary(10, numbers(minusZero, plusZero, plusZero))},
		{evenSummary(2, countUp(32)), evenSummary(2, toldNumbers(32, func(i int) float32 { return float32(i + 32) })), evenSummary(2, countUp(64))},
		{evenSummary(7, []float32{5}), evenSummary(7, []float32{5}), evenSummary(7, []float32{5, 5})},
	}
	for _, row := range rows {
		wantShown(t, "MergeSummaries", wrapped(impl.MergeSummaries(row.a, row.b)), row.want, true)
	}
	for _, near := range []int64{9, 11} {
		other := summary(near, b.Values, b.Gaps, b.Slacks)
		wantShown(t, "MergeSummaries with another near", wrapped(impl.MergeSummaries(a, other)), impl.Summary{}, false)
		wantShown(t, "MergeSummaries with another near", wrapped(impl.MergeSummaries(other, a)), impl.Summary{}, false)
	}
}

func TestMergeSummariesAtLimits(t *testing.T) {
	many := func(first float32, count int64) impl.Summary {
		return summary(4, []float32{first, first + 1}, []int64{1, count - 1}, []int64{0, 0})
	}
	wantShown(t, "up to MaxCount", wrapped(impl.MergeSummaries(many(1, 600000), many(3, 400000))), summary(4, []float32{1, 2, 3, 4}, []int64{1, 599999, 1, 399999}, []int64{0, 0, 0, 0}), true)
	wantShown(t, "above MaxCount", wrapped(impl.MergeSummaries(many(1, 600000), many(3, 400001))), impl.Summary{}, false)
	wantShown(t, "MaxCount twice", wrapped(impl.MergeSummaries(many(1, impl.MaxCount), many(3, impl.MaxCount))), impl.Summary{}, false)
	wantShown(t, "MaxCount and none", wrapped(impl.MergeSummaries(many(1, impl.MaxCount), summary(4, nil, nil, nil))), many(1, impl.MaxCount), true)
	a := summary(4, []float32{1, 3, 5}, []int64{1, 1, 1}, []int64{0, 3, 0})
	b := func(slack int64) impl.Summary {
		return summary(4, []float32{2, 4, 6}, []int64{1, 2, 1}, []int64{0, slack, 0})
	}
	wantShown(t, "a slack up to the count", wrapped(impl.MergeSummaries(a, b(3))), summary(4, []float32{1, 2, 3, 4, 5, 6}, []int64{1, 1, 1, 2, 1, 1}, []int64{0, 3, 7, 3, 0, 0}), true)
	wantShown(t, "a slack above the count", wrapped(impl.MergeSummaries(a, b(4))), impl.Summary{}, false)
}

// twoGaps are gaps of 2, but the first one and those with some indices are 1.
func twoGaps(n int, ones ...int) []int64 {
	gaps := repeated(int64(2), n)
	gaps[0] = 1
	for _, i := range ones {
		gaps[i] = 1
	}
	return gaps
}

// Two summaries of 33 values have 66, of which only pairs of gaps of 1 are joined.
func TestMergeSummariesAboveTheirRoom(t *testing.T) {
	high := toldNumbers(33, func(i int) float32 { return float32(i + 33) })
	a := summary(126, countUp(33), twoGaps(33, 1, 2), make([]int64, 33))
	b := summary(126, high, twoGaps(33, 6, 7), make([]int64, 33))
	want := summary(126, slices.Delete(slices.Delete(countUp(66), 39, 40), 1, 2), slices.Concat(twoGaps(32), twoGaps(32)), make([]int64, 64))
	wantShown(t, "64 values are left", wrapped(impl.MergeSummaries(a, b)), want, true)
	few := summary(126, countUp(33), twoGaps(33, 1), make([]int64, 33))
	wantShown(t, "65 values are left", wrapped(impl.MergeSummaries(few, b)), impl.Summary{}, false)
	wantShown(t, "66 values are left", wrapped(impl.MergeSummaries(evenSummary(67, countUp(33)), evenSummary(67, high))), impl.Summary{}, false)
	wantSame(t, "two full ones", digest(impl.MergeSummaries(evenSummary(20, countUp(64)), evenSummary(20, countUp(64)))), shown(20, 128, 12, 12804, 915, 0, true))
}

// seriesLists are n parts of a series with m numbers each.
func seriesLists(n, m int) [][]float32 {
	lists := make([][]float32, n)
	for j := range lists {
		lists[j] = toldNumbers(m, func(i int) float32 { return seriesNumber(17*j + i) })
	}
	return lists
}

func TestSummaryShared(t *testing.T) {
	rows := []struct {
		near int64
		n, m int
		want string
	}{
		{2, 1, 1, shown(1, 1, -80, 1, 0)},
		{2, 2, 40, shown(80, 2, 180, 159, 0)},
		{2, 3, 100, shown(300, 39, 50928, 10761, 185490)},
		{2, 16, 256, shown(4096, 64, 166348, 229888, 6158880)},
		{7, 3, 100, shown(300, 47, 71039, 8601, 68537)},
		{7, 16, 256, shown(4096, 23, 16421, 59454, 248389)},
		{20, 3, 100, shown(300, 64, 133326, 10434, 38150)},
		{20, 16, 256, shown(4096, 45, 68726, 99749, 299970)},
		{60, 2, 40, shown(80, 41, 59235, 1719, 0)},
		{65, 1, 65, shown(65, 33, 38604, 1121, 0)},
		{66, 2, 33, shown(66, 34, 39564, 1187, 0)},
		{1000, 1, 64, shown(64, 64, 143611, 2080, 0)},
	}
	for _, row := range rows {
		for _, workers := range []int64{1, 2, 8} {
			wantSame(t, "SummaryShared", digest(impl.SummaryShared(seriesLists(row.n, row.m), row.near, workers)), shown(row.near)+row.want+shown(true))
		}
	}
	// The summary of a list, or what is merged, has no room.
	for _, row := range [][3]int{{66, 1, 65}, {67, 2, 33}, {60, 16, 256}, {1000, 3, 40}} {
		for _, workers := range []int64{1, 8} {
			wantShown(t, "SummaryShared without room", wrapped(impl.SummaryShared(seriesLists(row[1], row[2]), int64(row[0]), workers)), impl.Summary{}, false)
		}
	}
	one := [][]float32{{1}}
	for _, near := range []int64{1, 0, -1, 1001, math.MaxInt64, math.MinInt64} {
		wantShown(t, "SummaryShared with no near", wrapped(impl.SummaryShared(one, near, 1)), impl.Summary{}, false)
	}
	for _, workers := range []int64{0, -1, 9, math.MaxInt64, math.MinInt64} {
		wantShown(t, "SummaryShared without workers", wrapped(impl.SummaryShared(one, 4, workers)), impl.Summary{}, false)
	}
	for _, n := range []int{0, 17, 5000} {
		wantShown(t, "SummaryShared with too few or too many lists", wrapped(impl.SummaryShared(seriesLists(n, 1), 4, 1)), impl.Summary{}, false)
	}
	for what, list := range notLists() {
		for _, lists := range [][][]float32{{list}, {list, {1}}, {{1}, {2}, list}} {
			wantShown(t, "SummaryShared with "+what, wrapped(impl.SummaryShared(lists, 2, 2)), impl.Summary{}, false)
		}
	}
}
