package tests

import (
	"math"
	"testing"

	"loop.example/g01347/impl"
)

// mostSum is how far from 0 the sums of edges lie at most.
const mostSum = 1000000000000

// sumsOf are 16 triples of sums, the last ones of which are 0.
func sumsOf(triples ...[3]int64) []int64 {
	list := make([]int64, 48)
	for i, triple := range triples {
		copy(list[3*i:], triple[:])
	}
	return list
}

// fullSums are 16 times the same triple.
func fullSums(triple [3]int64) []int64 {
	return sumsOf(repeated(triple, 16)...)
}

// turnedEdges are edges of n nodes, in both directions, and some of them more than once.
func turnedEdges(n int64, count int) []int64 {
	edges := []int64{}
	for i := range int64(count) {
		a := (i*i*7 + i*3) % n
		edges = append(edges, a, (a+1+i*5%(n-1))%n)
	}
	return edges
}

// notEdges are no edges of four nodes.
func notEdges() map[string][]int64 {
	return map[string][]int64{
		"one node":            {0},
		"half an edge":        {0, 1, 2},
		"an edge of one node": {2, 2},
		"a last one such":     {0, 1, 3, 3},
		"a node below":        {-1, 2},
		"a second node below": {2, -1},
		"a node above":        {4, 0},
		"a second node above": {0, 4},
		"a last node above":   {0, 1, 1, 2, 2, 4},
		"far nodes":           {math.MinInt64, math.MaxInt64},
		"a node of 2^32":      {1 << 32, 1},
		"65 edges":            turnedEdges(4, 65),
		"64 edges and a node": append(turnedEdges(4, 64), 0),
		"5000 edges":          turnedEdges(4, 5000),
	}
}

// wrongNodes are no numbers of nodes.
var wrongNodes = []int64{0, 1, -1, -4, 33, 64, math.MinInt64, math.MaxInt64, 1 << 32, 1<<32 + 4}

func TestEdgeSketch(t *testing.T) {
	rows := []struct {
		n          int64
		edges      []int64
		node, salt int64
		want       [][3]int64
	}{
		{3, []int64{0, 1}, 0, 7, [][3]int64{{1, 1, 1}, {1, 1, 1}, {1, 1, 1}, {1, 1, 1}}},
		{3, []int64{1, 0}, 1, 7, [][3]int64{{-1, -1, -1}, {-1, -1, -1}, {-1, -1, -1}, {-1, -1, -1}}},
		{3, []int64{0, 1}, 2, 7, nil},
		{3, []int64{}, 0, 7, nil},
		{2, []int64{0, 1}, 0, 0, [][3]int64{{1, 1, 1}}},
		{2, []int64{0, 1}, 1, 0, [][3]int64{{-1, -1, -1}}},
		{2, []int64{1, 0, 0, 1}, 0, 3, [][3]int64{{2, 2, 2}}},
		{3, []int64{0, 1, 1, 2, 0, 2}, 1, 5, [][3]int64{{0, 4, 24}, {0, 4, 24}, {1, 5, 25}, {1, 5, 25}, {1, 5, 25}}},
		{3, []int64{0, 1, 1, 2, 0, 2}, 0, 5, [][3]int64{{2, 3, 5}, {2, 3, 5}, {1, 2, 4}, {1, 2, 4}}},
		{4, []int64{0, 1, 2, 3}, 3, greatestKey, [][3]int64{{-1, -11, -121}, {-1, -11, -121}}},
		{4, []int64{3, 0, 3, 1, 3, 2}, 3, 1, [][3]int64{{-3, -21, -179}, {-2, -18, -170}, {-2, -18, -170}, {-1, -11, -121}}},
		{4, []int64{3, 0, 3, 1, 3, 2}, 0, 1, [][3]int64{{1, 3, 9}}},
		{32, []int64{31, 30, 31, 0}, 31, 2, [][3]int64{{-2, -1022, -983042}, {-2, -1022, -983042}, {-2, -1022, -983042}, {-1, -31, -961}}},
		{32, []int64{31, 30, 31, 0}, 30, 2, [][3]int64{{1, 991, 982081}, {1, 991, 982081}, {1, 991, 982081}}},
		{32, []int64{31, 30, 31, 0}, 0, 2, [][3]int64{{1, 31, 961}, {1, 31, 961}, {1, 31, 961}, {1, 31, 961}}},
		{5, []int64{0, 4, 0, 4, 4, 0}, 4, 9, [][3]int64{{-3, -12, -48}, {-3, -12, -48}}},
		{5, []int64{0, 4, 0, 4, 4, 0}, 0, 9, [][3]int64{{3, 12, 48}, {3, 12, 48}}},
		{3, []int64{0, 1}, 1, 34102, repeated([3]int64{-1, -1, -1}, 15)},
		{3, []int64{0, 1}, 1, 28907, repeated([3]int64{-1, -1, -1}, 16)},
		{3, []int64{0, 1}, 1, 52174, repeated([3]int64{-1, -1, -1}, 16)},
	}
	for _, row := range rows {
		wantShown(t, "EdgeSketch "+shown(row.n, row.edges, row.node, row.salt), wrapped(impl.EdgeSketch(row.n, row.edges, row.node, row.salt)), sumsOf(row.want...), true)
	}
}

func TestLongEdgeSketches(t *testing.T) {
	rows := []struct {
		n          int64
		count      int
		node, salt int64
		want       int64
	}{
		{32, 64, 0, 7, 11424},
		{32, 64, 31, 7, 0},
		{32, 64, 10, 12345, 6099194},
		{4, 64, 3, 0, -15410},
		{4, 64, 0, greatestKey, 949},
		{7, 63, 2, 3, 55799},
		{2, 64, 0, 1, 2880},
		{2, 64, 1, 1, -2880},
	}
	for _, row := range rows {
		got, ok := impl.EdgeSketch(row.n, turnedEdges(row.n, row.count), row.node, row.salt)
		wantShown(t, "a long EdgeSketch", shown(len(got), weighed(got), ok), 48, row.want, true)
	}
}

func TestEdgeSketchWithInvalidOnes(t *testing.T) {
	for what, edges := range notEdges() {
		wantShown(t, "EdgeSketch with "+what, wrapped(impl.EdgeSketch(4, edges, 0, 7)), []int64{}, false)
	}
	for _, n := range wrongNodes {
		wantShown(t, "EdgeSketch of nodes "+impl.Decimal(n), wrapped(impl.EdgeSketch(n, []int64{0, 1}, 0, 7)), []int64{}, false)
		wantShown(t, "EdgeSketch without edges of nodes "+impl.Decimal(n), wrapped(impl.EdgeSketch(n, nil, 0, 7)), []int64{}, false)
	}
	for _, node := range []int64{-1, 4, 5, math.MinInt64, math.MaxInt64, 1 << 32} {
		wantShown(t, "EdgeSketch of the node "+impl.Decimal(node), wrapped(impl.EdgeSketch(4, []int64{0, 1}, node, 7)), []int64{}, false)
	}
	for _, salt := range wrongSalts {
		wantShown(t, "EdgeSketch with the salt "+impl.Decimal(salt), wrapped(impl.EdgeSketch(4, []int64{0, 1}, 0, salt)), []int64{}, false)
		wantShown(t, "EdgeSketch without edges with the salt "+impl.Decimal(salt), wrapped(impl.EdgeSketch(4, nil, 0, salt)), []int64{}, false)
	}
}

// notSums are no sums of edges.
func notSums() map[string][]int64 {
	lists := map[string][]int64{"nil": nil, "no sums": {}, "47 sums": make([]int64, 47), "49 sums": make([]int64, 49), "three sums": {1, 1, 1}, "5000 sums": make([]int64, 5000)}
	for _, sum := range []int64{mostSum + 1, -mostSum - 1, math.MinInt64, math.MaxInt64} {
		for _, at := range []int{0, 1, 2, 24, 47} {
			list := sumsOf([3]int64{1, 1, 1})
			list[at] = sum
			lists[shown(sum, at)] = list
		}
	}
	return lists
}

func TestJoinSketch(t *testing.T) {
	rows := []struct{ a, b, want []int64 }{
		{sumsOf(), sumsOf(), sumsOf()},
		{sumsOf([3]int64{1, 2, 3}), sumsOf(), sumsOf([3]int64{1, 2, 3})},
		{sumsOf([3]int64{1, 2, 3}), sumsOf([3]int64{-1, -2, -3}), sumsOf()},
		{sumsOf([3]int64{1, 2, 3}, [3]int64{4, 5, 6}), sumsOf([3]int64{10, 20, 30}, [3]int64{}, [3]int64{7, 8, 9}), sumsOf([3]int64{11, 22, 33}, [3]int64{4, 5, 6}, [3]int64{7, 8, 9})},
		{fullSums([3]int64{mostSum, -mostSum, 1}), fullSums([3]int64{-mostSum, -mostSum, mostSum}), fullSums([3]int64{0, -2 * mostSum, mostSum + 1})},
		{fullSums([3]int64{mostSum, mostSum, mostSum}), fullSums([3]int64{mostSum, 1, 0}), fullSums([3]int64{2 * mostSum, mostSum + 1, mostSum})},
		{upTo(48), told(48, func(i int64) int64 { return i * i }), told(48, func(i int64) int64 { return i + i*i })},
	}
	for _, row := range rows {
		wantShown(t, "JoinSketch "+shown(row.a, row.b), wrapped(impl.JoinSketch(row.a, row.b)), row.want, true)
		wantShown(t, "JoinSketch "+shown(row.b, row.a), wrapped(impl.JoinSketch(row.b, row.a)), row.want, true)
	}
	for what, list := range notSums() {
		for _, other := range [][]int64{list, sumsOf(), make([]int64, len(list))} {
			wantShown(t, "JoinSketch at first "+what, wrapped(impl.JoinSketch(list, other)), []int64{}, false)
			wantShown(t, "JoinSketch at last "+what, wrapped(impl.JoinSketch(other, list)), []int64{}, false)
		}
	}
}

// shownEdge tells the edge of sums.
func shownEdge(sketch []int64, n int64) string {
	a, b, ok := impl.EdgeIn(sketch, n)
	return shown(a, b, ok)
}

func TestEdgeIn(t *testing.T) {
	rows := []struct {
		triples [][3]int64
		n, a, b int64
	}{
		{[][3]int64{{1, 1, 1}}, 3, 0, 1},
		{[][3]int64{{-1, -1, -1}}, 3, 0, 1},
		{[][3]int64{{1, 1, 1}}, 2, 0, 1},
		{[][3]int64{{-1, -1, -1}}, 2, 0, 1},
		{[][3]int64{{1, 5, 25}}, 3, 1, 2},
		{[][3]int64{{-1, -5, -25}}, 3, 1, 2},
		{[][3]int64{{1, 2, 4}}, 3, 0, 2},
		{[][3]int64{{1, 991, 982081}}, 32, 30, 31},
		{[][3]int64{{-1, -991, -982081}}, 32, 30, 31},
		{[][3]int64{{1, 31, 961}}, 32, 0, 31},
		{[][3]int64{{1, 959, 919681}}, 32, 29, 31},
		{[][3]int64{{1, 1, 1}}, 4, 0, 1},
		{[][3]int64{{1, 2, 4}}, 4, 0, 2},
		{[][3]int64{{1, 3, 9}}, 4, 0, 3},
		{[][3]int64{{1, 6, 36}}, 4, 1, 2},
		{[][3]int64{{1, 7, 49}}, 4, 1, 3},
		{[][3]int64{{1, 11, 121}}, 4, 2, 3},
		{[][3]int64{{1, 7, 49}}, 5, 1, 2},
		{[][3]int64{{1, 10, 100}}, 8, 1, 2},
		{[][3]int64{{0, 0, 0}, {1, 1, 1}}, 3, 0, 1},
		{[][3]int64{{2, 6, 26}, {1, 5, 25}, {1, 1, 1}}, 3, 1, 2},
		{[][3]int64{{1, 1, 1}, {1, 5, 25}}, 3, 0, 1},
		{[][3]int64{{1, 1, 2}, {1, 5, 25}}, 3, 1, 2},
		{[][3]int64{{1, 4, 16}, {1, 5, 25}}, 3, 1, 2},
		{[][3]int64{{1, -1, 1}, {1, 5, 25}}, 3, 1, 2},
		{[][3]int64{{-1, 1, 1}, {-1, -5, -25}}, 3, 1, 2},
		{[][3]int64{{2, 2, 2}, {-2, -4, -8}, {0, 1, 1}, {3, 3, 3}, {-1, -2, -4}}, 3, 0, 2},
		{[][3]int64{{mostSum, mostSum, mostSum}, {1, mostSum, mostSum}, {-1, mostSum, -mostSum}, {1, 1, -1}, {-1, -1, 1}, {1, 2, 4}}, 3, 0, 2},
		{append(repeated([3]int64{0, 0, 0}, 15), [3]int64{-1, -1, -1}), 3, 0, 1},
		{append(repeated([3]int64{1, 0, 0}, 15), [3]int64{1, 2, 4}), 3, 0, 2},
		{[][3]int64{{1, 1, 1}, {5, -mostSum, mostSum}}, 3, 0, 1},
		{[][3]int64{{1, -5, 25}, {1, 5, -25}, {-1, 5, -25}, {-1, -5, 25}, {1, 5, 25}}, 3, 1, 2},
		{[][3]int64{{1, 3, 9}, {1, 6, 36}, {1, 8, 64}, {1, 9, 81}, {1, 10, 100}, {1, -3, 9}, {1, -1, 1}, {1, 5, 25}}, 3, 1, 2},
		{[][3]int64{{1, -4, 16}, {1, -3, 9}, {1, -7, 49}, {1, -8, 64}, {1, 7, 49}}, 4, 1, 3},
		{[][3]int64{{1, 1000000, mostSum}, {1, 1, 1}}, 3, 0, 1},
	}
	for _, row := range rows {
		wantShown(t, "EdgeIn "+shown(row.triples, row.n), shownEdge(sumsOf(row.triples...), row.n), row.a, row.b, true)
	}
}

func TestEdgeInWithInvalidOnes(t *testing.T) {
	// Sums that are 0, those of two edges, and those that lie: of no edge of three nodes, with another sign, or another square.
	lies := [][3]int64{{}, {2, 2, 2}, {2, 6, 26}, {-2, -2, -2}, {0, 1, 1}, {3, 3, 3}, {1, 0, 0}, {1, 3, 9}, {1, 4, 16}, {1, 6, 36}, {1, 7, 49}, {1, 8, 64}, {1, 9, 81}, {1, 10, 100}, {1, 11, 121}, {1, -1, 1}, {-1, 1, 1}, {-1, 1, -1}, {-1, -1, 1}, {1, 1, -1}, {1, 1, 0}, {1, 1, 2}, {1, 5, 24}, {1, 5, 26}, {1, 5, -25}, {-1, -5, 25}, {1, -2, 4}, {1, -3, 9}, {1, -5, 25}, {1, -7, 49}, {-1, 3, -9}, {-1, 5, -25}, {1, mostSum, mostSum}, {-1, mostSum, -mostSum}, {-1, -mostSum, -mostSum}, {1, 1000000, mostSum}, {mostSum, mostSum, mostSum}, {-mostSum, -mostSum, -mostSum}}
	for _, triple := range lies {
		wantShown(t, "EdgeIn one that lies "+shown(triple), shownEdge(sumsOf(triple), 3), 0, 0, false)
		wantShown(t, "EdgeIn all that lie "+shown(triple), shownEdge(fullSums(triple), 3), 0, 0, false)
	}
	for what, list := range notSums() {
		wantShown(t, "EdgeIn "+what, shownEdge(list, 3), 0, 0, false)
	}
	for _, n := range wrongNodes {
		for _, triple := range [][3]int64{{1, 1, 1}, {}, {1, 34, 34 * 34}, {-1, 0, 0}, {1, 0, 0}} {
			wantShown(t, "EdgeIn of nodes "+impl.Decimal(n), shownEdge(fullSums(triple), n), 0, 0, false)
		}
	}
}

// shownForest tells the edges of a forest, and how many parts there are.
func shownForest(n int64, edges []int64) string {
	list, parts, ok := impl.ForestOf(n, edges)
	return shown(list, parts, ok)
}

func TestForestOf(t *testing.T) {
	rows := []struct {
		n           int64
		edges, want []int64
		parts       int64
	}{
		{3, []int64{0, 1, 1, 2, 0, 2}, []int64{0, 1}, 1},
		{4, []int64{0, 1, 1, 2, 0, 2}, []int64{0, 1}, 2},
		{2, []int64{}, []int64{}, 2},
		{32, []int64{}, []int64{}, 32},
		{2, []int64{0, 1}, []int64{0}, 1},
		{2, []int64{1, 0}, []int64{0}, 1},
		{2, []int64{0, 1, 0, 1}, []int64{0}, 1},
		{2, []int64{0, 1, 1, 0, 0, 1}, []int64{0}, 1},
		{3, []int64{0, 1, 0, 1, 1, 2}, []int64{0, 2}, 1},
		{4, []int64{3, 2, 1, 0, 2, 1}, []int64{0, 1, 2}, 1},
		{4, []int64{0, 1, 1, 2, 2, 3, 3, 0}, []int64{0, 1, 2}, 1},
		{4, []int64{0, 1, 2, 3, 0, 2, 1, 3}, []int64{0, 1, 2}, 1},
		{5, []int64{4, 3, 3, 4, 2, 0, 0, 2, 4, 2, 1, 3}, []int64{0, 2, 4, 5}, 1},
		{6, []int64{0, 1, 1, 2, 2, 0, 3, 4, 4, 5, 5, 3}, []int64{0, 1, 3, 4}, 2},
		{6, []int64{0, 1, 1, 2, 2, 0, 3, 4, 4, 5, 5, 3, 0, 5, 1, 4}, []int64{0, 1, 3, 4, 6}, 1},
		{32, []int64{31, 0}, []int64{0}, 31},
		{32, []int64{31, 30, 0, 1, 31, 0, 30, 1}, []int64{0, 1, 2}, 29},
		{7, []int64{6, 5, 5, 4, 4, 3, 3, 2, 2, 1, 1, 0, 0, 6}, []int64{0, 1, 2, 3, 4, 5}, 1},
	}
	for _, row := range rows {
		wantShown(t, "ForestOf "+shown(row.n, row.edges), shownForest(row.n, row.edges), row.want, row.parts, true)
	}
	ring, line := []int64{}, []int64{}
	for i := range int64(32) {
		ring = append(ring, 31-i, (32-i)%32)
		line = append(line, i, (i+1)%32)
	}
	wantShown(t, "ForestOf a ring", shownForest(32, ring), upTo(31), 1, true)
	wantShown(t, "ForestOf another ring", shownForest(32, line), upTo(31), 1, true)
	wantShown(t, "ForestOf a ring, twice", shownForest(32, append(ring, line...)), upTo(31), 1, true)
	many := []struct {
		n     int64
		count int
		edges int
		want  int64
		parts int64
	}{
		{32, 64, 29, 10713, 3},
		{32, 20, 19, 2317, 13},
		{32, 40, 26, 6753, 6},
		{31, 64, 26, 7390, 5},
		{17, 64, 15, 2114, 2},
		{4, 64, 3, 14, 1},
		{2, 64, 1, 0, 1},
		{10, 5, 5, 40, 5},
	}
	for _, row := range many {
		list, parts, ok := impl.ForestOf(row.n, turnedEdges(row.n, row.count))
		wantShown(t, "ForestOf many", shown(len(list), weighed(list), parts, ok), row.edges, row.want, row.parts, true)
	}
}

func TestForestOfWithInvalidOnes(t *testing.T) {
	for what, edges := range notEdges() {
		wantShown(t, "ForestOf with "+what, shownForest(4, edges), []int64{}, 0, false)
	}
	for _, n := range wrongNodes {
		wantShown(t, "ForestOf nodes "+impl.Decimal(n), shownForest(n, []int64{0, 1}), []int64{}, 0, false)
		wantShown(t, "ForestOf no edges and nodes "+impl.Decimal(n), shownForest(n, nil), []int64{}, 0, false)
	}
}

func TestForestsShared(t *testing.T) {
	rows := []struct {
		n     int64
		lists [][]int64
		want  []int64
	}{
		{3, [][]int64{{0, 1}, {}}, []int64{2, 3}},
		{2, [][]int64{{}}, []int64{2}},
		{2, [][]int64{{0, 1}, {}, {1, 0, 0, 1}}, []int64{1, 2, 1}},
		{32, [][]int64{{}, {31, 0}}, []int64{32, 31}},
		{4, [][]int64{{0, 1, 1, 2, 0, 2}, {0, 1, 2, 3}, {3, 2, 2, 1, 1, 0}, {0, 3}, {}, {0, 2, 1, 3, 0, 1}, {1, 2, 2, 1}, {3, 0, 0, 1, 2, 0}}, []int64{2, 2, 1, 3, 4, 1, 3, 1}},
		{32, [][]int64{{}, {}, {}, {}, {}, {}, {}, {}}, []int64{32, 32, 32, 32, 32, 32, 32, 32}},
		{2, nil, nil},
		{32, [][]int64{}, nil},
		{32, [][]int64{turnedEdges(32, 64), turnedEdges(32, 20), nil, turnedEdges(32, 40), turnedEdges(32, 1)}, []int64{3, 13, 32, 6, 31}},
	}
	for _, row := range rows {
		for workers := range int64(8) {
			wantShown(t, "ForestsShared by "+impl.Decimal(workers+1), wrapped(impl.ForestsShared(row.n, row.lists, workers+1)), row.want, true)
		}
	}
}

func TestForestsSharedWithInvalidOnes(t *testing.T) {
	for what, edges := range notEdges() {
		for _, lists := range [][][]int64{{edges}, {edges, {0, 1}}, append(repeated([]int64{0, 1}, 7), edges)} {
			wantShown(t, "ForestsShared with "+what, wrapped(impl.ForestsShared(4, lists, 2)), []int64{}, false)
		}
	}
	for _, n := range wrongNodes {
		for _, lists := range [][][]int64{nil, {nil}, {{0, 1}}} {
			wantShown(t, "ForestsShared of nodes "+impl.Decimal(n), wrapped(impl.ForestsShared(n, lists, 2)), []int64{}, false)
		}
	}
	for _, workers := range []int64{0, -1, 9, math.MinInt64, math.MaxInt64, 1<<32 + 1} {
		for _, lists := range [][][]int64{nil, {nil}, {{0, 1}}} {
			wantShown(t, "ForestsShared by "+impl.Decimal(workers), wrapped(impl.ForestsShared(4, lists, workers)), []int64{}, false)
		}
	}
	for _, count := range []int{9, 16, 5000} {
		wantShown(t, "ForestsShared of too many lists", wrapped(impl.ForestsShared(4, repeated([]int64{0, 1}, count), 2)), []int64{}, false)
	}
}
