package tests

import (
	"math"
	"slices"
	"testing"

	"loop.example/g01347/impl"
)

// wholeVector has n small integers as numbers, so that their sums and products are exact.
func wholeVector(n, turn int) []float32 {
	return toldNumbers(n, func(i int) float32 { return float32((i*i*7+i*turn+turn)%23 - 11) })
}

// sumOfBoth are the sums of the numbers of both.
func sumOfBoth(a, b []float32) []float32 {
	return toldNumbers(len(a), func(i int) float32 { return a[i] + b[i] })
}

// wideDot is the product of two vectors in 64-bit numbers.
func wideDot(v, w []float32) float64 {
	sum := 0.0
	for i, x := range v {
		sum += float64(x) * float64(w[i])
	}
	return sum
}

// isNear reports whether a number is as far from another one as told, at most.
func isNear(got float32, want, far float64) bool {
	return math.Abs(float64(got)-want) <= far
}

func TestPromise8NormsAreThoseOfVectors(t *testing.T) {
	for n := 1; n <= 32; n++ {
		for turn := range 10 {
			v, w := roughVector(n, turn), roughVector(n, turn+3)
			norm, one := impl.NormOf(v)
			dot, two := impl.DotOf(v, w)
			wantTrue(t, "NormOf", one && isNear(norm, math.Sqrt(wideDot(v, v)), 0.001))
			wantTrue(t, "DotOf", two && isNear(dot, wideDot(v, w), 0.01))
			a, b := wholeVector(n, turn), wholeVector(n, turn+3)
			wantShown(t, "DotOf small integers", wrapped(impl.DotOf(a, b)), float32(wideDot(a, b)), true)
			wantShown(t, "NormOf small integers", wrapped(impl.NormOf(a)), float32(math.Sqrt(wideDot(a, a))), true)
		}
	}
}

func TestPromise8SketchesOfSumsAreSums(t *testing.T) {
	for n := 1; n <= 32; n++ {
		for turn := range 5 {
			salts := told(1+(n+turn*6)%32, func(i int64) int64 { return seriesKey(i + int64(turn)) })
			a, b := wholeVector(n, turn), wholeVector(n, turn+3)
			sketchA, one := impl.SignSketch(a, salts)
			sketchB, two := impl.SignSketch(b, salts)
			wantTrue(t, "SignSketch", one && two)
			wantShown(t, "a sketch of sums of small integers", wrapped(impl.SignSketch(sumOfBoth(a, b), salts)), sumOfBoth(sketchA, sketchB), true)
			for i, salt := range salts {
				wantShown(t, "SignRow", wrapped(impl.SignRow(a, salt)), sketchA[i], true)
			}
			wantNearSums(t, roughVector(n, turn), roughVector(n, turn+3), salts)
		}
	}
}

// wantNearSums checks that the sketch of sums is, nearly, the sum of sketches.
func wantNearSums(t *testing.T, v, w []float32, salts []int64) {
	t.Helper()
	calls := bySalts()
	for name, call := range calls {
		first, one := call(v, salts)
		second, two := call(w, salts)
		both, three := call(sumOfBoth(v, w), salts)
		wantTrue(t, name, one && two && three && len(both) == len(salts))
		for i, x := range both {
			if !isNear(x, float64(first[i])+float64(second[i]), 0.001) {
				t.Errorf("%s: the sum of %v and %v is told as %v", name, first[i], second[i], x)
			}
		}
	}
}

func TestPromise8EverySignIsThatOfItsIndex(t *testing.T) {
	for _, salt := range []int64{0, 1, 7, 12345, greatestKey} {
		for at := range 32 {
			v := repeated(float32(0), 32)
			v[at] = 1
			sign, _ := impl.SignOf(int64(at), salt)
			wantShown(t, "SignRow of one number", wrapped(impl.SignRow(v, salt)), float32(sign), true)
		}
	}
}

func TestPromise8LengthsAreKeptNearly(t *testing.T) {
	for _, n := range []int{1, 2, 10, 32} {
		v, w := roughVector(n, 7), roughVector(n, 11)
		norm, dot := wideDot(v, v), wideDot(v, w)
		squares, shrunk, products := 0.0, 0.0, 0.0
		for turn := range int64(400) {
			salts := told(32, func(i int64) int64 { return turn*32 + i })
			sketch, _ := impl.SignSketch(v, salts)
			other, _ := impl.SignSketch(w, salts)
			short, _ := impl.ShrinkVector(v, salts)
			about, one := impl.NormAbout(sketch, 1)
			length, two := impl.NormOf(short)
			product, three := impl.DotAbout(sketch, other, 1)
			wantTrue(t, "all succeed", one && two && three)
			wantTrue(t, "the length is kept by the shorter vector", math.Abs(float64(about-length)) < 0.001*float64(about)+1e-6)
			squares += float64(about) * float64(about) / 400
			shrunk += float64(length) * float64(length) / 400
			products += float64(product) / 400
		}
		wide := math.Sqrt(norm * wideDot(w, w))
		wantTrue(t, "the mean of squares", math.Abs(squares-norm) < 0.05*norm && math.Abs(shrunk-norm) < 0.05*norm)
		wantTrue(t, "the mean of products", math.Abs(products-dot) < 0.05*wide)
	}
}

func TestPromise8GroupsHaveTheirMedian(t *testing.T) {
	for _, n := range []int{1, 2, 12, 30, 32} {
		list := wholeVector(n, 5)
		for groups := 1; groups <= n; groups++ {
			if n%groups != 0 {
				continue
			}
			means := []float64{}
			for part := range slices.Chunk(list, n/groups) {
				means = append(means, wideDot(part, part)/float64(n/groups))
			}
			slices.Sort(means)
			got, ok := impl.NormAbout(list, int64(groups))
			wantTrue(t, "NormAbout", ok && isNear(got, math.Sqrt(means[(groups-1)/2]), 0.001))
			wantShown(t, "DotAbout itself", wrapped(impl.DotAbout(list, list, int64(groups))), float32(means[(groups-1)/2]), true)
		}
	}
}

func TestPromise8AnglesAreToldNearly(t *testing.T) {
	for _, turns := range []float64{0, 0.05, 0.125, 0.25, 0.4, 0.5} {
		v, w := []float32{3, 0}, []float32{float32(2 * math.Cos(2*math.Pi*turns)), float32(2 * math.Sin(2*math.Pi*turns))}
		mean := 0.0
		for turn := range int64(200) {
			salts := told(32, func(i int64) int64 { return turn*32 + i })
			a, one := impl.PlaneBits(spreadOf(v), salts)
			b, two := impl.PlaneBits(spreadOf(w), salts)
			angle, three := impl.AngleAbout(a, b)
			wantTrue(t, "AngleAbout", one && two && three && angle >= 0 && angle <= 0.5)
			mean += float64(angle) / 200
		}
		if math.Abs(mean-turns) > 0.02 {
			t.Errorf("an angle of %v turns is told as %v", turns, mean)
		}
	}
}

// spreadOf spreads both numbers of a vector to many, so that planes lie in nearly all directions.
func spreadOf(v []float32) []float32 {
	return toldNumbers(32, func(i int) float32 { return v[i%2] * (1 + 0.07*float32(i/2)) })
}

func TestPromise8EqualVectorsHaveEqualBands(t *testing.T) {
	salts := told(32, seriesKey)
	lists := [][]bool{}
	for i := range 32 {
		bits, ok := impl.PlaneBits(roughVector(20, i%16), salts)
		wantTrue(t, "PlaneBits", ok)
		lists = append(lists, bits)
	}
	vectors := toldVectors(32, func(i int) []float32 { return roughVector(20, i%16) })
	near, _ := impl.NearPairs(vectors, 0)
	for _, wide := range []int64{1, 2, 4, 8, 16, 32} {
		pairs, ok := impl.BandPairs(lists, wide)
		wantTrue(t, "BandPairs", ok)
		wantPairs(t, pairs, 32)
		for pair := range slices.Chunk(near, 2) {
			wantTrue(t, "equal vectors have equal bands", hasPair(pairs, pair[0], pair[1]))
		}
		for i := range 32 {
			for k := i + 1; k < 32; k++ {
				wantTrue(t, "pairs have an equal band", hasPair(pairs, int64(i), int64(k)) == haveBand(lists[i], lists[k], int(wide)))
			}
		}
	}
}

// toldVectors are n vectors, each of which is told by its index.
func toldVectors(n int, tell func(i int) []float32) [][]float32 {
	list := make([][]float32, n)
	for i := range list {
		list[i] = tell(i)
	}
	return list
}

// haveBand reports whether bits have an equal band, by the texts of bands.
func haveBand(a, b []bool, wide int) bool {
	for from := 0; from < len(a); from += wide {
		if shown(a[from:from+wide]) == shown(b[from:from+wide]) {
			return true
		}
	}
	return false
}

// hasPair reports whether a list has a pair.
func hasPair(pairs []int64, i, k int64) bool {
	for pair := range slices.Chunk(pairs, 2) {
		if pair[0] == i && pair[1] == k {
			return true
		}
	}
	return false
}

// wantPairs checks that pairs are in ascending order, the lesser index first.
func wantPairs(t *testing.T, pairs []int64, n int64) {
	t.Helper()
	last := int64(-1)
	for pair := range slices.Chunk(pairs, 2) {
		wantTrue(t, "the indices of a pair", len(pair) == 2 && pair[0] >= 0 && pair[0] < pair[1] && pair[1] < n)
		wantTrue(t, "the order of pairs", pair[0]*n+pair[1] > last)
		last = pair[0]*n + pair[1]
	}
}

func TestPromise8NearPairsAreNear(t *testing.T) {
	for _, n := range []int{1, 2, 5, 32} {
		list := toldVectors(32, func(i int) []float32 { return wholeVector(n, i) })
		for _, far := range []float32{0, 1, 4, 10, 40, 1000} {
			pairs, ok := impl.NearPairs(list, far)
			wantTrue(t, "NearPairs", ok)
			wantPairs(t, pairs, 32)
			for i := range 32 {
				for k := i + 1; k < 32; k++ {
					between := toldNumbers(n, func(j int) float32 { return list[i][j] - list[k][j] })
					// All of these squares are integers, of which far has an exact one, too.
					near := wideDot(between, between) <= float64(far)*float64(far)
					wantTrue(t, "the pairs that are near", hasPair(pairs, int64(i), int64(k)) == near)
				}
			}
		}
	}
}

func TestPromise8LinesLeadBack(t *testing.T) {
	for n := 1; n <= 32; n++ {
		for turn := range 8 {
			v := roughVector(n, turn)
			lines, one := impl.LinesOf(v)
			back, two := impl.BackLines(lines)
			wantTrue(t, "LinesOf and BackLines", one && two && len(lines) == n && len(back) == n)
			for j, x := range back {
				if !isNear(x, float64(v[j]), 0.0005) {
					t.Errorf("%d of %d: %v leads back to %v", j, n, v[j], x)
				}
			}
			for k, line := range lines {
				wantShown(t, "LineOf", wrapped(impl.LineOf(v, int64(k))), line, true)
				wantLine(t, v, k, line)
			}
			all, ok := impl.TopLines(lines, int64(n))
			wantShown(t, "TopLines of all", shown(all, ok), lines, true)
			none, ok := impl.TopLines(lines, 0)
			wantShown(t, "TopLines of none", shown(none, ok), repeated(complex64(0), n), true)
		}
	}
}

// wantLine checks a line by 64-bit sines, of which the program has its own.
func wantLine(t *testing.T, v []float32, k int, line complex64) {
	t.Helper()
	re, im := 0.0, 0.0
	for j, x := range v {
		sin, cos := math.Sincos(-2 * math.Pi * float64(j*k%len(v)) / float64(len(v)))
		re, im = re+float64(x)*cos, im+float64(x)*sin
	}
	if !isNear(real(line), re, 0.001) || !isNear(imag(line), im, 0.001) {
		t.Errorf("the line %d of %d: got %v, want %v, nearly", k, len(v), line, complex(re, im))
	}
}

func TestPromise8TopLinesAreTheGreatest(t *testing.T) {
	for n := 1; n <= 32; n++ {
		lines := roughLines(n, n%7)
		for i := 3; i < n; i += 4 {
			// A conjugate is just as long.
			lines[i] = impl.ConjugateOf(lines[i-2])
		}
		for keep := range n + 1 {
			kept, ok := impl.TopLines(lines, int64(keep))
			wantTrue(t, "TopLines", ok && len(kept) == n)
			for k, line := range kept {
				before := 0
				for other := range lines {
					a, b := impl.LongOf(lines[other]), impl.LongOf(lines[k])
					if a > b || a == b && other < k {
						before++
					}
				}
				want := complex64(0)
				if before < keep {
					want = lines[k]
				}
				wantPoint(t, "TopLines", line, bitsOf(real(want)), bitsOf(imag(want)))
			}
		}
	}
}

func TestPromise8LinesSlide(t *testing.T) {
	for n := 1; n <= 32; n++ {
		series := roughVector(n+40, 5)
		lines, _ := impl.LinesOf(series[:n])
		for from := range 40 {
			for k := range lines {
				slid, ok := impl.SlideLine(lines[k], int64(k), int64(n), series[from], series[from+n])
				wantTrue(t, "SlideLine", ok)
				lines[k] = slid
				wantLine(t, series[from+1:from+1+n], k, slid)
			}
		}
	}
}

// partsByFilling finds for each node the least node that it is joined with, by going along edges until nothing changes.
func partsByFilling(n int64, edges []int64) []int64 {
	parts := upTo(int(n))
	for changed := true; changed; {
		changed = false
		for edge := range slices.Chunk(edges, 2) {
			least := min(parts[edge[0]], parts[edge[1]])
			for _, node := range edge {
				changed = changed || parts[node] != least
				parts[node] = least
			}
		}
	}
	return parts
}

// someEdges are lists of edges of n nodes.
func someEdges(n int64) [][]int64 {
	lists := [][]int64{nil}
	for _, count := range []int{1, 2, 3, 5, 10, 20, 40, 64} {
		lists = append(lists, turnedEdges(n, count), told(2*count, func(i int64) int64 { return (i*i*3/2 + i%2*(1+i*i%(n-1))) % n }))
	}
	return slices.DeleteFunc(lists, func(edges []int64) bool {
		for edge := range slices.Chunk(edges, 2) {
			if edge[0] == edge[1] {
				return true
			}
		}
		return false
	})
}

func TestPromise8ForestsJoinWhatEdgesJoin(t *testing.T) {
	for _, n := range []int64{2, 3, 5, 10, 31, 32} {
		counts, lists := []int64{}, someEdges(n)
		for _, edges := range lists {
			list, parts, ok := impl.ForestOf(n, edges)
			want := partsByFilling(n, edges)
			wantTrue(t, "ForestOf", ok && parts == int64(len(different(want))) && parts == n-int64(len(list)))
			chosen := []int64{}
			for i := range int64(len(edges) / 2) {
				a, b := edges[2*i], edges[2*i+1]
				before := partsByFilling(n, edges[:2*i])
				wantTrue(t, "an edge joins what was not joined", slices.Contains(list, i) == (before[a] != before[b]))
				if slices.Contains(list, i) {
					chosen = append(chosen, a, b)
				}
			}
			wantTrue(t, "the order of edges", slices.IsSorted(list))
			wantShown(t, "what the forest joins", shown(partsByFilling(n, chosen)), want)
			counts = append(counts, parts)
		}
		for workers := range int64(8) {
			for eight := range slices.Chunk(upTo(len(lists)), 8) {
				some := [][]int64{}
				for _, i := range eight {
					some = append(some, lists[i])
				}
				wantShown(t, "ForestsShared", wrapped(impl.ForestsShared(n, some, workers+1)), counts[eight[0]:][:len(eight)], true)
			}
		}
	}
}

// sketchOfNodes joins the sketches of nodes.
func sketchOfNodes(t *testing.T, n int64, edges []int64, salt int64, isIn func(node int64) bool) []int64 {
	t.Helper()
	all := sumsOf()
	for node := range n {
		sketch, one := impl.EdgeSketch(n, edges, node, salt)
		wantTrue(t, "EdgeSketch", one)
		if isIn(node) {
			next, two := impl.JoinSketch(all, sketch)
			wantTrue(t, "JoinSketch", two)
			all = next
		}
	}
	return all
}

func TestPromise8SketchesOfNodesAreJoinedToEdgesThatLeaveThem(t *testing.T) {
	found, asked := 0, 0
	for _, n := range []int64{2, 3, 5, 10, 31, 32} {
		for turn, edges := range someEdges(n) {
			salt := seriesKey(int64(turn))
			wantShown(t, "no edge leaves all nodes", shown(sketchOfNodes(t, n, edges, salt, func(int64) bool { return true })), sumsOf())
			for cut := range n {
				isIn := func(node int64) bool { return (node*node+cut)%3 == 0 || node == cut }
				sketch := sketchOfNodes(t, n, edges, salt, isIn)
				a, b, ok := impl.EdgeIn(sketch, n)
				leaving := 0
				for edge := range slices.Chunk(edges, 2) {
					if isIn(edge[0]) != isIn(edge[1]) {
						leaving++
					}
				}
				if leaving > 0 {
					asked++
				}
				if ok {
					found++
					there := hasPair(edges, a, b) || hasPair(edges, b, a)
					wantTrue(t, "the edge is there, and leaves the nodes", there && a < b && isIn(a) != isIn(b))
				}
				wantTrue(t, "an edge that leaves the nodes alone is found", leaving != 1 || ok)
				wantTrue(t, "no edge is found if none leaves the nodes", leaving > 0 || !ok)
			}
		}
	}
	wantTrue(t, "most edges that leave nodes are found", 3*found > 2*asked && asked > 500)
}

func TestPromise8SketchesAreLoadedAsTheyWereStored(t *testing.T) {
	list := []impl.Saved{}
	for i := range 190 {
		c, _ := impl.NewCells(int64(2+i%63), int64(1+i%6), seriesKey(int64(i)))
		top := tops(int64(1+i%32), nil, nil, nil)
		for k := range int64(i) {
			key := seriesKey(k * int64(i%7))
			c, _ = impl.PutCells(c, key, k*k*25)
			top, _ = impl.PutTop(top, key)
		}
		name := string([]byte{byte('a' + i%26), byte('z' - i%25), byte('a' + i%3)})[:1+i%3]
		s := saved(name, c, top)
		stored, one := impl.StoreSaved(s)
		loaded, two := impl.LoadSaved(stored)
		wantTrue(t, "StoreSaved and LoadSaved", one && two && impl.SameSaved([]impl.Saved{loaded}, []impl.Saved{s}))
		wantShown(t, "what is loaded", shown(loaded), s)
		wantTrue(t, "what is stored", stored == packed(s))
		list = append(list, s)
	}
	for n := range 9 {
		for from := range 6 {
			some := list[from*35:][:n]
			all, one := impl.StoreAll(some)
			wantTrue(t, "StoreAll", one && all == storedAll(some))
			wantShown(t, "all of them", shownRecovered(all), some, len(all), true)
			// Each cut leaves what was whole before it.
			wholeOnes, size := 0, 0
			for cut := 0; cut < len(all); cut += 1 + len(all)/97 {
				for size+len(packed(some[wholeOnes])) <= cut {
					size += len(packed(some[wholeOnes]))
					wholeOnes++
				}
				wantShown(t, "some of them", shownRecovered(all[:cut]), some[:wholeOnes], size, true)
			}
		}
	}
}
