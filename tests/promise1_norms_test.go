package tests

import (
	"strings"
	"testing"

	"loop.example/g01347/impl"
)

func awkwardVectors(payload uint32) [][]float32 {
	lists := [][]float32{{5}, {3, 1, 2, 2}, numbers(minusZero, plusZero), numbers(greatest, greatest), numbers(greatest, greatest|minusZero), numbers(leastBits, mostSubBit), numbers(0x5f000000, 0x5f000000, 0x5f000000, 0x5f000000), roughVector(32, 7), countUp(31), awkwardNumbers(payload)[:32], numbers(oneBits, noNumber|payload)}
	return append(lists, ordered(notVectors())...)
}

func awkwardLines(payload uint32) [][]complex64 {
	lists := [][]complex64{{5i}, {1, 1i, -1, 2}, points(minusZero, plusZero), points(greatest, greatest), points(greatest, plusZero, greatest, plusZero), roughLines(32, 7), awkwardComplex(payload)[:32], points(noNumber|payload, oneBits)}
	return append(lists, ordered(notLines())...)
}

func awkwardEdges() [][]int64 {
	return append(append([][]int64{nil, {}, {0, 1}, {1, 0}, {0, 1, 1, 2, 0, 2}, turnedEdges(32, 64), turnedEdges(2, 64)}, ordered(notEdges())...), awkwardLists()...)
}

func awkwardSums() [][]int64 {
	lists := [][]int64{sumsOf(), sumsOf([3]int64{1, 1, 1}), sumsOf([3]int64{-1, -5, -25}), fullSums([3]int64{mostSum, -mostSum, mostSum}), fullSums([3]int64{1, mostSum, mostSum})}
	return append(append(lists, ordered(notSums())...), awkwardLists()...)
}

func awkwardBits() [][]bool {
	return append(ordered(notBits()), bitsFrom("1"), bitsFrom("0"), bitsFrom("1100"), bitsFrom("0110"), repeated(true, 32), repeated(false, 31))
}

func awkwardSmall() []int64 {
	return append([]int64{2, 3, 4, 8, 16, 31, 32, 33}, awkwardIntegers()...)
}

// vectorResults has a line for each function of vectors.
func vectorResults(payload uint32) []string {
	lines := []string{}
	for _, v := range awkwardVectors(payload) {
		lines = append(lines, shown("vector", impl.IsVector(v)), wrapped(impl.NormOf(v)), wrapped(impl.LinesOf(v)))
		for _, w := range awkwardVectors(payload) {
			lines = append(lines, wrapped(impl.DotOf(v, w)), wrapped(impl.DotAbout(v, w, 1)), wrapped(impl.DotAbout(v, w, int64(len(w)))))
			for _, far := range awkwardNumbers(payload) {
				lines = append(lines, wrapped(impl.NearPairs([][]float32{v, w}, far)), wrapped(impl.NearPairs([][]float32{v}, far)))
			}
		}
		for _, salts := range append(awkwardLists(), ordered(notSalts())...) {
			lines = append(lines, wrapped(impl.SignSketch(v, salts)), wrapped(impl.ShrinkVector(v, salts)), wrapped(impl.PlaneBits(v, salts)))
		}
		for _, n := range awkwardSmall() {
			lines = append(lines, wrapped(impl.SignRow(v, n)), wrapped(impl.NormAbout(v, n)), wrapped(impl.DotAbout(v, v, n)), wrapped(impl.LineOf(v, n)))
		}
	}
	return append(lines, wrapped(impl.NearPairs(nil, 1)), wrapped(impl.NearPairs(roughVectors(33, 2), 1)))
}

// lineResults has a line for each function of lines and of bits.
func lineResults(payload uint32) []string {
	lines := []string{}
	for _, list := range awkwardLines(payload) {
		lines = append(lines, wrapped(impl.BackLines(list)))
		for _, n := range awkwardSmall() {
			lines = append(lines, wrapped(impl.TopLines(list, n)))
		}
	}
	for _, line := range awkwardComplex(payload) {
		for _, n := range awkwardSmall() {
			lines = append(lines, wrapped(impl.SlideLine(line, n, 32, 1, 5)), wrapped(impl.SlideLine(line, 0, n, 1, 5)))
		}
		for _, x := range awkwardNumbers(payload) {
			lines = append(lines, wrapped(impl.SlideLine(line, 1, 3, x, 5)), wrapped(impl.SlideLine(line, 1, 3, 5, x)))
		}
	}
	for _, a := range awkwardBits() {
		for _, b := range awkwardBits() {
			lines = append(lines, wrapped(impl.AngleAbout(a, b)))
			for _, wide := range awkwardSmall() {
				lines = append(lines, wrapped(impl.BandPairs([][]bool{a, b}, wide)))
			}
		}
	}
	return append(lines, wrapped(impl.BandPairs(nil, 1)), wrapped(impl.BandPairs(turnedBits(33, 2), 1)))
}

// forestResults has a line for each function of edges.
func forestResults(uint32) []string {
	lines := []string{}
	for _, edges := range awkwardEdges() {
		for _, n := range awkwardSmall() {
			lines = append(lines, shownForest(n, edges), wrapped(impl.EdgeSketch(n, edges, 1, 7)), wrapped(impl.EdgeSketch(3, edges, n, 7)), wrapped(impl.EdgeSketch(32, edges, 0, n)))
			lines = append(lines, wrapped(impl.ForestsShared(n, [][]int64{edges, nil, edges}, 2)), wrapped(impl.ForestsShared(32, [][]int64{edges, edges}, n)), wrapped(impl.ForestsShared(3, repeated(edges, 8), 8)))
		}
	}
	for _, a := range awkwardSums() {
		for _, n := range awkwardSmall() {
			lines = append(lines, shownEdge(a, n))
		}
		for _, b := range awkwardSums() {
			lines = append(lines, wrapped(impl.JoinSketch(a, b)))
		}
	}
	return lines
}

// savedResults has a line for each function of files.
func savedResults(uint32) []string {
	lines, all := []string{}, append(someSaved(), ordered(invalidSaved())...)
	for i, s := range all {
		lines = append(lines, shown("saved", impl.ValidSaved(s), impl.SameSaved(all[i:], all[:i])), shownBytes(impl.StoreSaved(s)), shownBytes(impl.StoreAll(all[i:])), shownBytes(impl.StoreAll(all[i:i+1])))
	}
	for _, text := range append(awkwardTexts(), "SKT1", "SKT1\xff", "SKT1\x01a\xff\xff", "SKT1\x01a\x02\x01\x00\x00\x00\x00", storedAll(someSaved()), strings.Repeat("SKT1\x01a\xff\xff", 5000), checked("SKT1\x00")) {
		lines = append(lines, wrapped(impl.LoadSaved(text)), shownRecovered(text))
	}
	return lines
}

func TestPromise1NormsReturnEqualResults(t *testing.T) {
	for _, results := range []func(uint32) []string{vectorResults, lineResults, forestResults, savedResults} {
		first := results(0)
		for _, payload := range []uint32{0, 0x3fffff} {
			again := results(payload)
			for i := range first {
				wantSame(t, "again", again[i], first[i])
			}
		}
	}
}

func TestPromise1NormsKeepNumbers(t *testing.T) {
	salts := roomy([]int64{3, 5, 3})
	calls := map[string]func(list []float32){
		"IsVector":     func(list []float32) { impl.IsVector(list) },
		"NormOf":       func(list []float32) { impl.NormOf(list) },
		"DotOf":        func(list []float32) { impl.DotOf(list, list) },
		"SignRow":      func(list []float32) { impl.SignRow(list, 3) },
		"SignSketch":   func(list []float32) { impl.SignSketch(list, salts) },
		"ShrinkVector": func(list []float32) { impl.ShrinkVector(list, salts) },
		"PlaneBits":    func(list []float32) { impl.PlaneBits(list, salts) },
		"NormAbout":    func(list []float32) { impl.NormAbout(list, int64(len(list))) },
		"DotAbout":     func(list []float32) { impl.DotAbout(list, list, int64(len(list))) },
		"DotAbout, 1":  func(list []float32) { impl.DotAbout(list, list, 1) },
		"NearPairs":    func(list []float32) { impl.NearPairs([][]float32{list, list}, 1) },
		"LineOf":       func(list []float32) { impl.LineOf(list, 0) },
		"LinesOf":      func(list []float32) { impl.LinesOf(list) },
	}
	for what, call := range calls {
		for _, list := range [][]float32{{3, 1, 2}, {5}, {4, 3, 2, 1}, numbers(minusZero, plusZero, leastBits), numbers(greatest, greatest|minusZero, greatest), {}, numbers(oneBits, noNumber)} {
			list = roomy(list)
			before := shown(whole(list), whole(salts))
			call(list)
			wantSame(t, what, shown(whole(list), whole(salts)), before)
		}
	}
	vectors := [][]float32{{3}, {1}, {2}, {9}, {9}}
	before := shown(vectors)
	impl.NearPairs(vectors[:3], 1)
	wantSame(t, "NearPairs", shown(vectors), before)
}

func TestPromise1NormsKeepLines(t *testing.T) {
	calls := map[string]func(lines []complex64){
		"BackLines":        func(lines []complex64) { impl.BackLines(lines) },
		"TopLines":         func(lines []complex64) { impl.TopLines(lines, 1) },
		"TopLines of none": func(lines []complex64) { impl.TopLines(lines, 0) },
		"TopLines of all":  func(lines []complex64) { impl.TopLines(lines, int64(len(lines))) },
	}
	for what, call := range calls {
		for _, lines := range [][]complex64{{1, 3i, -2}, {5}, {1, 1, 1}, points(minusZero, leastBits), points(greatest, greatest), {}, points(oneBits, noNumber)} {
			lines = roomy(lines)
			before := shown(whole(lines))
			call(lines)
			wantSame(t, what, shown(whole(lines)), before)
		}
	}
	lists := bitLists("1100", "1010", "0110", "1111", "0000")
	before := shown(lists)
	for _, wide := range []int64{1, 2, 3, 4} {
		impl.BandPairs(lists[:3], wide)
	}
	impl.AngleAbout(lists[0][:2], lists[1][:2])
	wantSame(t, "lists of bits", shown(lists), before)
}

func TestPromise1NormsKeepEdgesAndSums(t *testing.T) {
	calls := map[string]func(edges []int64){
		"EdgeSketch":    func(edges []int64) { impl.EdgeSketch(4, edges, 1, 7) },
		"ForestOf":      func(edges []int64) { impl.ForestOf(4, edges) },
		"ForestsShared": func(edges []int64) { impl.ForestsShared(4, [][]int64{edges, edges}, 2) },
		"JoinSketch":    func(edges []int64) { impl.JoinSketch(edges, edges) },
		"EdgeIn":        func(edges []int64) { impl.EdgeIn(edges, 4) },
	}
	for what, call := range calls {
		for _, list := range [][]int64{{3, 1, 2, 0}, {0, 1, 1, 2, 0, 2}, {}, {1, 1}, {1}, turnedEdges(4, 64), sumsOf([3]int64{1, 1, 1}), fullSums([3]int64{-1, -1, -1}), fullSums([3]int64{mostSum, 1, -mostSum})} {
			list = roomy(list)
			before := shown(whole(list))
			call(list)
			wantSame(t, what, shown(whole(list)), before)
		}
	}
	lists := [][]int64{{0, 1}, {1, 2}, nil, {9, 9}, {9, 9}}
	before := shown(lists)
	impl.ForestsShared(3, lists[:3], 2)
	wantSame(t, "ForestsShared", shown(lists), before)
}

// listsOf are the lists of what is saved.
func listsOf(saved ...impl.Saved) []any {
	lists := []any{}
	for _, s := range saved {
		lists = append(lists, s.Cells.Counts, s.Tops.Keys, s.Tops.Counts, s.Tops.Errors)
	}
	return lists
}

func TestPromise1NormsKeepWhatIsSaved(t *testing.T) {
	calls := map[string]func(list []impl.Saved){
		"ValidSaved": func(list []impl.Saved) { impl.ValidSaved(list[0]) },
		"SameSaved":  func(list []impl.Saved) { impl.SameSaved(list, list) },
		"StoreSaved": func(list []impl.Saved) { impl.StoreSaved(list[0]) },
		"StoreAll":   func(list []impl.Saved) { impl.StoreAll(list) },
	}
	for what, call := range calls {
		for _, s := range append(someSaved(), invalidSaved()["a count above"]) {
			s.Cells.Counts, s.Tops.Keys, s.Tops.Counts, s.Tops.Errors = roomy(s.Cells.Counts), roomy(s.Tops.Keys), roomy(s.Tops.Counts), roomy(s.Tops.Errors)
			list := []impl.Saved{s, named("a"), named("b"), named("c")}
			show := func() string {
				return shown(list, whole(s.Cells.Counts), whole(s.Tops.Keys), whole(s.Tops.Counts), whole(s.Tops.Errors))
			}
			before := show()
			call(list[:2])
			wantSame(t, what, show(), before)
		}
	}
}

func TestPromise1NormsReturnNewLists(t *testing.T) {
	v, sums, lines, salts, edges := roomy([]float32{3, 1, 2}), roomy(sumsOf([3]int64{1, 1, 1})), roomy([]complex64{3i, 1, 2}), roomy([]int64{3}), roomy([]int64{0, 1, 1, 2})
	vectors, bits := [][]float32{v, v}, [][]bool{bitsFrom("10"), bitsFrom("11")}
	file := storedAll(someSaved())
	args := []any{whole(v), whole(sums), whole(lines), whole(salts), whole(edges), bits[0], bits[1]}
	calls := map[string]func() ([]any, bool){
		"SignSketch":       func() ([]any, bool) { return partOf(impl.SignSketch(v, salts)) },
		"ShrinkVector":     func() ([]any, bool) { return partOf(impl.ShrinkVector(v, salts)) },
		"PlaneBits":        func() ([]any, bool) { return partOf(impl.PlaneBits(v, salts)) },
		"BandPairs":        func() ([]any, bool) { return partOf(impl.BandPairs(bits, 1)) },
		"NearPairs":        func() ([]any, bool) { return partOf(impl.NearPairs(vectors, 1)) },
		"LinesOf":          func() ([]any, bool) { return partOf(impl.LinesOf(v)) },
		"BackLines":        func() ([]any, bool) { return partOf(impl.BackLines(lines)) },
		"TopLines":         func() ([]any, bool) { return partOf(impl.TopLines(lines, 1)) },
		"TopLines of all":  func() ([]any, bool) { return partOf(impl.TopLines(lines, 3)) },
		"TopLines of none": func() ([]any, bool) { return partOf(impl.TopLines(lines, 0)) },
		"EdgeSketch":       func() ([]any, bool) { return partOf(impl.EdgeSketch(3, edges, 1, 7)) },
		"JoinSketch":       func() ([]any, bool) { return partOf(impl.JoinSketch(sums, sums)) },
		"ForestsShared":    func() ([]any, bool) { return partOf(impl.ForestsShared(3, [][]int64{edges}, 1)) },
		"ForestOf": func() ([]any, bool) {
			list, _, ok := impl.ForestOf(3, edges)
			return []any{list}, ok
		},
		"LoadSaved": func() ([]any, bool) {
			s, ok := impl.LoadSaved(packed(someSaved()[4]))
			return listsOf(s), ok
		},
		"RecoverAll": func() ([]any, bool) {
			list, _, ok := impl.RecoverAll(file)
			return listsOf(list...), ok
		},
	}
	for what, call := range calls {
		wantNew(t, what, args, func() []any {
			lists, ok := call()
			wantTrue(t, what, ok)
			return lists
		})
	}
	list, _, _ := impl.RecoverAll(file)
	before := shown(list)
	other, _, _ := impl.RecoverAll(file)
	other[0] = impl.Saved{}
	wantSame(t, "RecoverAll after a change of another result", shown(list)+shownRecovered(file), before+shown(list, len(file), true))
}

func TestPromise1NormsFailWithZeroValues(t *testing.T) {
	noNumber, noNumbers, noList, noLine, noLines := shown(float32(0), false), shown([]float32{}, false), shown([]int64{}, false), shown(complex64(0), false), shown([]complex64{}, false)
	for what, v := range notVectors() {
		wantSame(t, "NormOf "+what, wrapped(impl.NormOf(v)), noNumber)
		wantSame(t, "DotOf "+what, wrapped(impl.DotOf(v, v)), noNumber)
		wantSame(t, "SignRow "+what, wrapped(impl.SignRow(v, 3)), noNumber)
		wantSame(t, "SignSketch "+what, wrapped(impl.SignSketch(v, []int64{3})), noNumbers)
		wantSame(t, "NormAbout "+what, wrapped(impl.NormAbout(v, 1)), noNumber)
		wantSame(t, "DotAbout "+what, wrapped(impl.DotAbout(v, v, 1)), noNumber)
		wantSame(t, "ShrinkVector "+what, wrapped(impl.ShrinkVector(v, []int64{3})), noNumbers)
		wantSame(t, "PlaneBits "+what, wrapped(impl.PlaneBits(v, []int64{3})), shown([]bool{}, false))
		wantSame(t, "NearPairs "+what, wrapped(impl.NearPairs([][]float32{v}, 1)), noList)
		wantSame(t, "LineOf "+what, wrapped(impl.LineOf(v, 0)), noLine)
		wantSame(t, "LinesOf "+what, wrapped(impl.LinesOf(v)), noLines)
	}
	for what, lines := range notLines() {
		wantSame(t, "BackLines "+what, wrapped(impl.BackLines(lines)), noNumbers)
		wantSame(t, "TopLines "+what, wrapped(impl.TopLines(lines, 1)), noLines)
	}
	for what, bits := range notBits() {
		wantSame(t, "AngleAbout "+what, wrapped(impl.AngleAbout(bits, bits)), noNumber)
		wantSame(t, "BandPairs "+what, wrapped(impl.BandPairs([][]bool{bits}, 1)), noList)
	}
	for what, edges := range notEdges() {
		wantSame(t, "EdgeSketch "+what, wrapped(impl.EdgeSketch(4, edges, 0, 7)), noList)
		wantSame(t, "ForestOf "+what, shownForest(4, edges), shown([]int64{}, 0, false))
		wantSame(t, "ForestsShared "+what, wrapped(impl.ForestsShared(4, [][]int64{edges}, 1)), noList)
	}
	for what, sums := range notSums() {
		wantSame(t, "JoinSketch "+what, wrapped(impl.JoinSketch(sums, sums)), noList)
		wantSame(t, "EdgeIn "+what, shownEdge(sums, 3), shown(0, 0, false))
	}
	for what, s := range invalidSaved() {
		wantSame(t, "StoreSaved "+what, shownBytes(impl.StoreSaved(s)), shownBytes("", false))
		wantSame(t, "StoreAll "+what, shownBytes(impl.StoreAll([]impl.Saved{named("a"), s})), shownBytes("", false))
	}
	for _, text := range []string{"", "SKT1", packed(named("A")), packed(named("a")) + "x"} {
		wantSame(t, "LoadSaved", wrapped(impl.LoadSaved(text)), shown(impl.Saved{}, false))
	}
	wantSame(t, "SlideLine", wrapped(impl.SlideLine(3, 2, 2, 1, 5)), noLine)
	wantSame(t, "SlideLine that is infinite", wrapped(impl.SlideLine(point(greatest, plusZero), 0, 2, 0, number(greatest))), noLine)
	wantSame(t, "LineOf that is infinite", wrapped(impl.LineOf(numbers(greatest, greatest), 0)), noLine)
	wantSame(t, "EdgeIn no edge", shownEdge(sumsOf(), 3), shown(0, 0, false))
	wantSame(t, "RecoverAll", shownRecovered("x"), shown([]impl.Saved{}, 0, true))
}
