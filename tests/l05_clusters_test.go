package tests

import (
	"math"
	"testing"

	"loop.example/g01347/impl"
)

// clusters are the clusters with these means, made without the program.
func clusters(room int64, means []float32, counts ...int64) impl.Clusters {
	return impl.Clusters{Room: room, Means: means, Counts: counts}
}

// evenClusters have a count of 1 for each mean.
func evenClusters(room int64, means []float32) impl.Clusters {
	return clusters(room, means, repeated(int64(1), len(means))...)
}

// someFour have the middles 1, 4, 6.5 and 8.5.
func someFour() impl.Clusters {
	return clusters(5, []float32{1, 3, 3, 10}, 2, 4, 1, 3)
}

// farClusters have means that are farther from each other than any number from 0.
func farClusters() impl.Clusters {
	return evenClusters(5, []float32{-3e38, 3e38})
}

// invalidClusters pass each limit of clusters by one, and far.
func invalidClusters() map[string]impl.Clusters {
	two := []float32{1, 2}
	invalid := map[string]impl.Clusters{
		"the zero struct":       {},
		"a room of 1":           evenClusters(1, two),
		"a room of 65":          evenClusters(65, two),
		"a room of 0":           clusters(0, nil),
		"a room below":          clusters(-2, nil),
		"the least room":        evenClusters(math.MinInt64, two),
		"the greatest room":     evenClusters(math.MaxInt64, two),
		"257 means":             evenClusters(64, countUp(257)),
		"5000 means":            evenClusters(64, countUp(5000)),
		"a first one too great": evenClusters(2, []float32{2, 1, 3}),
		"a last one too small":  evenClusters(2, []float32{1, 2, 1.9}),
		"nil means":             clusters(2, nil, 1, 1),
		"nil counts":            clusters(2, two),
		"a mean too few":        clusters(2, two[:1], 1, 1),
		"a count too few":       clusters(2, two, 1),
		"a count too many":      clusters(2, two, 1, 1, 1),
		"a count of 0":          clusters(2, two, 1, 0),
		"a first count of 0":    clusters(2, two, 0, 1),
		"a count below":         clusters(2, two, -1, 5),
		"the least count":       clusters(2, two, math.MinInt64, 5),
		"MaxCount passed by 1":  clusters(2, two, 1, impl.MaxCount),
		"one that passes it":    clusters(2, two[:1], impl.MaxCount+1),
		"the greatest counts":   clusters(2, []float32{1, 2, 3}, math.MaxInt64, math.MaxInt64, 3),
	}
	for _, bits := range notFinite {
		what := impl.Decimal(int64(bits))
		invalid["only "+what] = evenClusters(2, numbers(bits))
		invalid["at first "+what] = evenClusters(2, numbers(bits, 0x3f800000))
		invalid["at last "+what] = evenClusters(2, numbers(0x3f800000, 0x3f800000, bits))
	}
	return invalid
}

// someClusters are valid, some of them at their limits.
func someClusters() []impl.Clusters {
	return []impl.Clusters{
		clusters(2, nil),
		clusters(64, []float32{}),
		evenClusters(2, []float32{5}),
		clusters(64, numbers(minusZero, plusZero, minusZero), 1, 2, impl.MaxCount-3),
		clusters(2, []float32{7}, impl.MaxCount),
		evenClusters(64, countUp(256)),
		evenClusters(2, repeated(float32(7), 256)),
		clusters(64, countUp(256), repeated(int64(3906), 256)...),
		someFour(),
		farClusters(),
	}
}

func TestValidClusters(t *testing.T) {
	for _, c := range someClusters() {
		wantTrue(t, "ValidClusters "+shown(c), impl.ValidClusters(c))
	}
	for what, c := range invalidClusters() {
		wantFalse(t, "ValidClusters with "+what, impl.ValidClusters(c))
	}
}

func TestPutCluster(t *testing.T) {
	rows := []struct {
		c    impl.Clusters
		x    float32
		want impl.Clusters
	}{
		{clusters(2, nil), 4, evenClusters(2, []float32{4})},
		{evenClusters(2, []float32{4}), 2, evenClusters(2, []float32{2, 4})},
		{evenClusters(2, []float32{4}), 4, evenClusters(2, []float32{4, 4})},
		{someFour(), 0, clusters(5, []float32{0, 1, 3, 3, 10}, 1, 2, 4, 1, 3)},
		{someFour(), 1, clusters(5, []float32{1, 1, 3, 3, 10}, 2, 1, 4, 1, 3)},
		{someFour(), 3, clusters(5, []float32{1, 3, 3, 3, 10}, 2, 4, 1, 1, 3)},
		{someFour(), 10, clusters(5, []float32{1, 3, 3, 10, 10}, 2, 4, 1, 3, 1)},
		{evenClusters(2, numbers(plusZero)), number(minusZero), evenClusters(2, numbers(plusZero, minusZero))},
		{evenClusters(2, numbers(minusZero)), 0, evenClusters(2, numbers(minusZero, plusZero))},
		{clusters(2, []float32{7}, impl.MaxCount-1), 7, clusters(2, []float32{7, 7}, impl.MaxCount-1, 1)},
		{evenClusters(2, []float32{1, 2, 3}), 4, evenClusters(2, []float32{1, 2, 3, 4})},
		{evenClusters(64, countUp(127)), 127, evenClusters(64, countUp(128))},
		// Only what has more than twice the room is made less.
		{clusters(2, []float32{1, 2, 4}, 2, 2, 2), 3, clusters(2, []float32{1, 2, 3, 4}, 2, 2, 1, 2)},
		{clusters(2, []float32{1, 2, 3, 5}, 2, 2, 2, 2), 4, clusters(2, []float32{1, 2.5, 4, 5}, 2, 4, 1, 2)},
		{evenClusters(2, []float32{1, 2, 4, 5}), 3, clusters(2, numbers(0x3f800000, 0x40200000, 0x40800000, 0x40a00000), 1, 2, 1, 1)},
	}
	for _, row := range rows {
		wantShown(t, "PutCluster", wrapped(impl.PutCluster(row.c, row.x)), row.want, true)
	}
	wantShown(t, "above MaxCount", wrapped(impl.PutCluster(clusters(2, []float32{7}, impl.MaxCount), 7)), impl.Clusters{}, false)
	wantShown(t, "above MaxCount, and to be made less", wrapped(impl.PutCluster(clusters(2, []float32{1, 2, 3, 4}, 1, 1, 1, impl.MaxCount-3), 7)), impl.Clusters{}, false)
	wantShown(t, "a sum that is no number", wrapped(impl.PutCluster(clusters(2, []float32{-3.4e38, -3e38, 3e38, 3.4e38}, 4, 2, 2, 3), 3.4e38)), impl.Clusters{}, false)
	wantShown(t, "256 means", wrapped(impl.PutCluster(evenClusters(64, countUp(256)), 7)), impl.Clusters{}, false)
	for what, c := range invalidClusters() {
		wantShown(t, "PutCluster with "+what, wrapped(impl.PutCluster(c, 5)), impl.Clusters{}, false)
	}
	for _, bits := range notFinite {
		wantShown(t, "PutCluster no finite number", wrapped(impl.PutCluster(someFour(), number(bits))), impl.Clusters{}, false)
	}
}

func TestShrinkClusters(t *testing.T) {
	same := []impl.Clusters{
		clusters(2, nil),
		evenClusters(2, []float32{5}),
		clusters(2, []float32{5}, impl.MaxCount),
		clusters(2, []float32{5, 5}, impl.MaxCount-1, 1),
		evenClusters(2, []float32{2, 4}),
		evenClusters(64, countUp(10)),
		clusters(2, []float32{1, 2, 3}, 5, 7, 9),
		clusters(3, []float32{1, 2, 3, 4}, 2, 2, 2, 2),
		clusters(2, []float32{1, 2, 4, 8, 16, 32}, 1, 1, 1000, 1000, 1, 1),
		farClusters(),
	}
	for _, c := range same {
		wantShown(t, "ShrinkClusters that joins none", wrapped(impl.ShrinkClusters(c)), c, true)
	}
	rows := []struct{ c, want impl.Clusters }{
		{clusters(2, []float32{1, 2, 3, 4}, 2, 2, 2, 2), clusters(2, []float32{1, 2.5, 4}, 2, 4, 2)},
		{evenClusters(2, []float32{1, 2, 3, 4, 5, 6, 7, 8}), clusters(2, []float32{1, 3, 6, 8}, 1, 3, 3, 1)},
		{evenClusters(2, countUp(16)), clusters(2, []float32{0, 3.5, 10, 14, 15}, 1, 6, 7, 1, 1)},
		{evenClusters(4, countUp(40)), clusters(4, []float32{0, 1, 3, 7.5, 15, 24, 31.5, 36, 38, 39}, 1, 1, 3, 6, 9, 9, 6, 3, 1, 1)},
		{clusters(2, []float32{1, 2, 2, 2, 3}, 3, 1, 1, 1, 3), clusters(2, []float32{1, 2, 3}, 3, 3, 3)},
	}
	for _, row := range rows {
		wantShown(t, "ShrinkClusters", wrapped(impl.ShrinkClusters(row.c)), row.want, true)
	}
	for what, c := range invalidClusters() {
		wantShown(t, "ShrinkClusters with "+what, wrapped(impl.ShrinkClusters(c)), impl.Clusters{}, false)
	}
}

// The counts are chosen so that rounding less often, or in another order, tells otherwise which ones are joined.
func TestShrinkClustersRoundsItsLimit(t *testing.T) {
	rows := []struct {
		room   int64
		counts []int64
		mean   uint32
	}{
		{11, []int64{271750, 5227, 5227, 26851}, 0},
		{48, []int64{121455, 4528, 4529, 786962}, 0},
		{17, []int64{84876, 6812, 6813, 150351}, 0x4020009a},
		{5, []int64{81069, 29953, 29953, 200089}, 0x40200000},
		{37, []int64{179490, 6710, 6710, 365705}, 0x40200000},
		{15, []int64{393799, 17054, 17055, 168677}, 0x4020003d},
		{21, []int64{475524, 6683, 6683, 75439}, 0x40200000},
		{30, []int64{334556, 11790, 11790, 349583}, 0x40200000},
	}
	for _, row := range rows {
		c := clusters(row.room, []float32{1, 2, 3, 4}, row.counts...)
		want := c
		if row.mean != 0 {
			want = clusters(row.room, []float32{1, number(row.mean), 4}, row.counts[0], row.counts[1]+row.counts[2], row.counts[3])
		}
		wantShown(t, "ShrinkClusters", wrapped(impl.ShrinkClusters(c)), want, true)
	}
}

// joinedMean shrinks clusters between two others that are as many, so that just they are joined.
func joinedMean(t *testing.T, low, a, b, high float32, countA, countB int64) (float32, bool) {
	t.Helper()
	both := countA + countB
	c, ok := impl.ShrinkClusters(clusters(2, []float32{low, a, b, high}, both, countA, countB, both))
	if !ok {
		return 0, false
	}
	wantShown(t, "counts of joined ones", shown(c.Counts), []int64{both, both, both})
	return c.Means[1], true
}

func TestShrinkClustersRoundsItsMeans(t *testing.T) {
	rows := []struct {
		a, b           uint32
		countA, countB int64
		want           uint32
	}{
		{0xc2c56d0d, 0x3f0e7148, 83, 343, 0xc1964748},
		{0xc1198876, 0x4222c8c9, 161, 173, 0x4183a0ee},
		{0xc2aeab42, 0x4216c0aa, 909, 105, 0xc294c6d6},
		{0xc297773b, 0x42c72f8b, 723, 413, 0xc13fdf9b},
		// Rounded as such, the means of these equal ones would be greater, or less.
		{0xc1cab36f, 0xc1cab36f, 888, 693, 0xc1cab36f},
		{0xc2c6733d, 0xc2c6733d, 873, 208, 0xc2c6733d},
		{plusZero, minusZero, 1, 1, plusZero},
		{minusZero, plusZero, 1, 1, plusZero},
		{minusZero, minusZero, 1, 1, minusZero},
		{plusZero, plusZero, 3, 4, plusZero},
	}
	for _, row := range rows {
		got, ok := joinedMean(t, -200, number(row.a), number(row.b), 200, row.countA, row.countB)
		wantShown(t, "a joined mean", shown(got, ok), number(row.want), true)
	}
}

func TestShrinkClustersWithInfiniteSums(t *testing.T) {
	rows := []struct {
		low, a, b, high float32
		count           int64
		want            float32
	}{
		{-1, 3e38, 3.2e38, 3.3e38, 2, 3.2e38},
		{-3.3e38, -3.2e38, -3e38, 1, 2, -3.2e38},
		{-1, 2e38, 2e38, 3e38, 1, 2e38},
		{-3.4e38, -3e38, 1, 3.4e38, 2, -3e38},
		{-3.4e38, -1, 3e38, 3.4e38, 2, 3e38},
		{-3.4e38, -3e38, 3e38, 3.4e38, 1, 0},
	}
	for _, row := range rows {
		got, ok := joinedMean(t, row.low, row.a, row.b, row.high, row.count, row.count)
		wantShown(t, "an infinite sum", shown(got, ok), row.want, true)
	}
	c := clusters(2, []float32{-3.4e38, -3e38, 3e38, 3.4e38}, 4, 2, 2, 4)
	wantShown(t, "a sum that is no number", wrapped(impl.ShrinkClusters(c)), impl.Clusters{}, false)
}

// digestClusters tells long clusters of a series by weighed sums.
func digestClusters(c impl.Clusters, ok bool) string {
	bits := []int64{}
	for _, mean := range c.Means {
		bits = append(bits, int64(bitsOf(mean)))
	}
	return shown(c.Room, len(c.Means), weighed(bits), weighed(c.Counts), ok)
}

func TestSeriesOfClusters(t *testing.T) {
	rows := []struct {
		room             int64
		n                int
		want, shrunk     string
		quantiles, below []uint32
	}{
		{2, 4, shown(4, 17434804224, 10), shown(3, 8725463040, 8), []uint32{0xc1a00000, 0x40ac0000, 0x41b40000}, []uint32{0x3e000000, 0x3ed67d5e, 0x3f0ba9de, 0x3f800000}},
		{2, 5, shown(4, 17446600704, 12), shown(4, 17446600704, 12), []uint32{0xc1a00000, 0xc0355554, 0x41b40000}, []uint32{0x3dcccccd, 0x3efdc933, 0x3f1f094a, 0x3f800000}},
		{2, 100, shown(7, 43686160761, 407), shown(7, 43686160761, 407), []uint32{0xc129a975, 0x40e715fe, 0x41dc03d7}, []uint32{0x3ba3d70a, 0x3e73ee1a, 0x3f0fc93b, 0x3f800000}},
		{3, 256, shown(12, 118126650827, 1569), shown(12, 118126650827, 1569), []uint32{0xc14c1dc6, 0x410402b8, 0x41dc1209}, []uint32{0x3b000000, 0x3e856ceb, 0x3f0b7bd6, 0x3f800000}},
		{8, 17, shown(15, 177037770752, 135), shown(15, 177037770752, 135), []uint32{0xc1966666, 0x41398000, 0x41cbfffe}, []uint32{0x3cf0f0f1, 0x3eb522d9, 0x3ef72137, 0x3f800000}},
		{8, 300, shown(30, 707448552963, 4625), shown(30, 707448552963, 4625), []uint32{0xc148ba2e, 0x41069580, 0x41ddae6b}, []uint32{0x3c088889, 0x3e87fbec, 0x3f0721e0, 0x3f800000}},
		{33, 1000, shown(119, 10934970024814, 60141), shown(119, 10934970024814, 60141), []uint32{0xc158e38e, 0x41005448, 0x41dbc0ca}, []uint32{0x3c0b4396, 0x3e9074c7, 0x3f071687, 0x3f800000}},
		{64, 128, shown(128, 11175512834048, 8256), shown(127, 11035306754048, 8192), []uint32{0xc16acccd, 0x40fc0000, 0x41db6666}, []uint32{0x3b800000, 0x3e893333, 0x3f0a0000, 0x3f800000}},
		{64, 129, shown(123, 10486058188800, 7995), shown(123, 10486058188800, 7995), []uint32{0xc16a6666, 0x41008000, 0x41db3333}, []uint32{0x3b7e03f8, 0x3e8822ed, 0x3f08ee24, 0x3f800000}},
	}
	for _, row := range rows {
		c := clusters(row.room, nil)
		for i := range row.n {
			next, ok := impl.PutCluster(c, seriesNumber(i))
			wantTrue(t, "PutCluster", ok)
			c = next
		}
		wantSame(t, "a series", digestClusters(c, true), shown(row.room)+row.want+shown(true))
		wantSame(t, "a shrunk series", digestClusters(impl.ShrinkClusters(c)), shown(row.room)+row.shrunk+shown(true))
		for i, share := range []float32{0.1, 0.5, 0.9} {
			wantShown(t, "ClustersQuantile", wrapped(impl.ClustersQuantile(c, share)), number(row.quantiles[i]), true)
		}
		for i, x := range []float32{-20, -3.3, 10.25, 32.5} {
			wantShown(t, "ClustersBelow", wrapped(impl.ClustersBelow(c, x)), number(row.below[i]), true)
		}
	}
}

func TestClustersQuantile(t *testing.T) {
	rows := []struct {
		c     impl.Clusters
		share float32
		want  uint32
	}{
		{someFour(), 0, 0x3f800000}, {someFour(), number(minusZero), 0x3f800000}, {someFour(), number(leastBits), 0x3f800000}, {someFour(), 0.1, 0x3f800000},
		{someFour(), 0.11, 0x3f888889}, {someFour(), 0.3, 0x40155556}, {someFour(), 0.4, 0x40400000}, {someFour(), 0.5, 0x40400000}, {someFour(), 0.65, 0x40400000},
		{someFour(), 0.7, 0x40980000}, {someFour(), 0.8, 0x41040000}, {someFour(), 0.85, 0x41200000}, {someFour(), number(0x3f7fffff), 0x41200000}, {someFour(), 1, 0x41200000},
		{evenClusters(2, []float32{5}), 0, 0x40a00000}, {evenClusters(2, []float32{5}), 0.5, 0x40a00000}, {evenClusters(2, []float32{5}), 1, 0x40a00000},
		{clusters(2, []float32{5}, impl.MaxCount), 0.3, 0x40a00000},
		{evenClusters(2, []float32{2, 4}), 0.5, 0x40400000},
		{clusters(64, []float32{1, 2}, 999999, 1), 0.5, 0x3f800008}, {clusters(64, []float32{1, 2}, 999999, 1), 0.75, 0x3fc00008}, {clusters(64, []float32{1, 2}, 999999, 1), 0.999999, 0x3ffffff8},
		// The way to the last mean would end at 0.
		{evenClusters(2, []float32{-1e8, 1}), 0.75, 0x3f800000}, {evenClusters(2, []float32{-1e8, 1}), number(0x3f3fffff), 0xc1000000},
		// The middle one is at its own middle, and the way to it ends at 0, too.
		{evenClusters(2, []float32{-1e8, 1, 2}), 0.5, plusZero},
		{clusters(5, []float32{0, 1e30}, 3, 7), number(0x3e19999a), plusZero}, {clusters(5, []float32{0, 1e30}, 3, 7), number(0x3e19999b), 0x65218f08}, {clusters(5, []float32{0, 1e30}, 3, 7), number(0x3f266665), 0x7149f2c8},
		{evenClusters(2, numbers(minusZero, plusZero)), 0.25, minusZero}, {evenClusters(2, numbers(plusZero, minusZero)), 0.75, minusZero},
		{farClusters(), 0.25, 0xff61b1e6}, {farClusters(), 0.75, 0x7f61b1e6},
		// Rounding less often, or in another order, gives other bits.
		{clusters(5, numbers(0xc2956387, 0xc20c9418, 0x40f76a48, 0x41f88469), 145, 74, 889, 122), number(0x3efcdc1b), 0x402f6f30},
		{clusters(5, numbers(0xc2aa0c79, 0xc1d3b2ae, 0x418007c0, 0x4294e1c7), 360, 830, 645, 958), number(0x3ecbda8e), 0xc0e1c48c},
		{clusters(5, numbers(0xc28dadec, 0xc2093132, 0x428a7d7c, 0x429c9218), 709, 378, 492, 147), number(0x3f2de2ba), 0x41f814ec},
	}
	for _, row := range rows {
		wantShown(t, "ClustersQuantile", wrapped(impl.ClustersQuantile(row.c, row.share)), number(row.want), true)
	}
	for _, share := range []float32{0.26, 0.5, 0.74} {
		wantShown(t, "an infinite way", wrapped(impl.ClustersQuantile(farClusters(), share)), float32(0), false)
	}
	wantShown(t, "empty clusters", wrapped(impl.ClustersQuantile(clusters(2, nil), 0.5)), float32(0), false)
	for what, c := range invalidClusters() {
		wantShown(t, "ClustersQuantile with "+what, wrapped(impl.ClustersQuantile(c, 0.5)), float32(0), false)
	}
	for _, bits := range wrongShares {
		wantShown(t, "ClustersQuantile with no share", wrapped(impl.ClustersQuantile(someFour(), number(bits))), float32(0), false)
	}
}

func TestClustersBelow(t *testing.T) {
	rows := []struct {
		c    impl.Clusters
		x    float32
		want uint32
	}{
		{someFour(), 0.9, plusZero}, {someFour(), number(greatest | minusZero), plusZero}, {someFour(), 1, 0x3dcccccd}, {someFour(), 2, 0x3e800000}, {someFour(), 2.999, 0x3eccb924},
		{someFour(), 3, 0x3f266666}, {someFour(), 3.5, 0x3f2a0ea1}, {someFour(), 6.5, 0x3f400000}, {someFour(), 9.999, 0x3f5997ba}, {someFour(), 10, 0x3f800000}, {someFour(), number(greatest), 0x3f800000},
		{evenClusters(2, []float32{5}), 4.9, plusZero}, {evenClusters(2, []float32{5}), 5, 0x3f800000}, {evenClusters(2, []float32{5}), 5.1, 0x3f800000},
		{evenClusters(2, []float32{2, 4}), 3, 0x3f000000},
		{evenClusters(2, repeated(float32(7), 256)), 6, plusZero}, {evenClusters(2, repeated(float32(7), 256)), 7, 0x3f800000},
		{evenClusters(2, numbers(plusZero, 0x3f800000)), number(minusZero), 0x3e800000}, {evenClusters(2, numbers(minusZero, 0x3f800000)), number(leastBits | minusZero), plusZero},
		{clusters(64, []float32{1, 2}, 999999, 1), 1, 0x3effffef}, {clusters(64, []float32{1, 2}, 999999, 1), 1.5, 0x3f3ffff8}, {clusters(64, []float32{1, 2}, 999999, 1), 1.999, 0x3f7fdf33},
		{farClusters(), -3.1e38, plusZero}, {farClusters(), -3e38, 0x3e800000}, {farClusters(), 0, 0x3e800000}, {farClusters(), 3e37, 0x3e800000}, {farClusters(), 3e38, 0x3f800000},
		// Rounding less often, or in another order, gives other bits.
		{clusters(5, numbers(0xc2a67f7a, 0x4295ca92, 0x42b9d4a9, 0x42c661b7), 312, 842, 444, 789), number(0x42a75862), 0x3ee0671b},
		{clusters(5, numbers(0xc1878e30, 0xc15f53ab, 0xc14f75d7, 0x42555853), 65, 866, 315, 185), number(0x41f683ee), 0x3f60429b},
		{clusters(5, numbers(0xc2b00caf, 0xc1c86b34, 0xc0bae780, 0x42429c62), 292, 418, 185, 958), number(0x41f635ff), 0x3f23ec55},
	}
	for _, row := range rows {
		wantShown(t, "ClustersBelow", wrapped(impl.ClustersBelow(row.c, row.x)), number(row.want), true)
	}
	for _, x := range []float32{9e37, 2.9e38} {
		wantShown(t, "an infinite way", wrapped(impl.ClustersBelow(farClusters(), x)), float32(0), false)
	}
	wantShown(t, "empty clusters", wrapped(impl.ClustersBelow(clusters(2, nil), 5)), float32(0), false)
	for what, c := range invalidClusters() {
		wantShown(t, "ClustersBelow with "+what, wrapped(impl.ClustersBelow(c, 5)), float32(0), false)
	}
	for _, bits := range notFinite {
		wantShown(t, "ClustersBelow of no finite number", wrapped(impl.ClustersBelow(someFour(), number(bits))), float32(0), false)
	}
}
