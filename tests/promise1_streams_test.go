package tests

import (
	"testing"

	"loop.example/g01347/impl"
)

func awkwardWindows() []impl.Window {
	return append(append(ordered(invalidWindows()), someWindows()...), fallenWindow(16, 10, 17, 17, 17, 17, 17, 17, 16), window(7, 2, []int64{3, 3, 5, 5}, []int64{2, 2, 1, 1}))
}

func awkwardDecays(payload uint32) []impl.Decay {
	return append(append(ordered(invalidDecays()), someDecays()...), decay(noNumber|payload, 0x3f800000, 3), decay(0x3f800000, noNumber|payload, 3))
}

func awkwardTimes() []int64 {
	return append([]int64{0, 1, 5, 6, 12, 41, 200, 1000, impl.MaxTime - 1, impl.MaxTime}, wrongTimes...)
}

func awkwardRooms() []int64 {
	return append([]int64{1, 2, 3, 127, 128}, wrongRoomsOfStreams...)
}

func awkwardStreams() [][]int64 {
	return append(append(awkwardLists(), ordered(notReadings())...), upTo(127), upTo(128), repeated(int64(greatestKey), 128), []int64{5, 5, 5}, []int64{3, 1, 2}, []int64{-1000000, 1000000}, twoNone)
}

func awkwardWeights(payload uint32) [][]float32 {
	lists := [][]float32{{5}, {3, 1, 2, 2}, countUp(128), repeated(float32(1), 128), repeated(number(greatest), 128), numbers(greatest, greatest|minusZero), numbers(leastBits, mostSubBit), awkwardNumbers(payload), numbers(0x3f800000, noNumber|payload)}
	return append(ordered(notWeights()), lists...)
}

// windowResults has a line for each function of windows.
func windowResults(uint32) []string {
	lines := []string{}
	for _, w := range awkwardWindows() {
		lines = append(lines, shown("window", impl.ValidWindow(w)), wrapped(impl.NewWindow(w.Long, w.Parts)))
		for _, other := range awkwardWindows() {
			lines = append(lines, shown("same", impl.SameWindow(w, other)))
		}
		for _, time := range awkwardTimes() {
			low, high, ok := impl.BoundsOfWindow(w, time)
			lines = append(lines, shown("bounds", low, high, ok), wrapped(impl.CountWindow(w, time)), wrapped(impl.PutWindow(w, time, true)), wrapped(impl.PutWindow(w, time, false)))
		}
	}
	for _, times := range append(ordered(notTimes()), awkwardStreams()...) {
		bits := repeated(true, len(times))
		for _, time := range awkwardTimes() {
			lines = append(lines, wrapped(impl.CountExactly(times, bits, time, 5)), wrapped(impl.CountExactly(times, bits, 5, time)), wrapped(impl.CountExactly(times, bits[:len(bits)/2], time, time)))
			lines = append(lines, wrapped(impl.TimeSample(times, times, time, 5, 1)), wrapped(impl.TimeSample(times, times, 5, time, 1)), wrapped(impl.TimeSample(times, []int64{5, 7}, time, time, time)))
		}
	}
	return lines
}

// decayResults has a line for each function of decays, and of lists of numbers.
func decayResults(payload uint32) []string {
	lines := []string{}
	for _, d := range awkwardDecays(payload) {
		lines = append(lines, shown("decay", impl.ValidDecay(d)))
		for _, other := range awkwardDecays(payload) {
			lines = append(lines, shown("same", impl.SameDecay(d, other)), wrapped(impl.JoinDecays(d, other)))
		}
		for _, time := range awkwardTimes() {
			lines = append(lines, wrapped(impl.DecayAt(d, time)))
			for _, x := range awkwardNumbers(payload) {
				lines = append(lines, wrapped(impl.PutDecay(d, time, x)))
			}
		}
	}
	for _, list := range awkwardWeights(payload) {
		for _, room := range awkwardRooms() {
			lines = append(lines, wrapped(impl.MeansOfWindow(list, room)), shownWeighed(list, room, 1), shownWeighed(list, 2, room))
		}
		for _, x := range awkwardNumbers(payload) {
			lines = append(lines, wrapped(impl.SmoothStream(list, x)), wrapped(impl.SumOfSample(list, []int64{0}, x)))
		}
		for _, sample := range awkwardStreams() {
			lines = append(lines, wrapped(impl.SumOfSample(list, sample, 1)))
		}
	}
	return lines
}

// sampleResults has a line for each function of lists of integers, and of keys.
func sampleResults(uint32) []string {
	lines := []string{}
	for _, list := range awkwardStreams() {
		for _, room := range awkwardRooms() {
			for _, call := range ofWindow() {
				lines = append(lines, wrapped(call(list, room)))
			}
			for _, salt := range awkwardKeys() {
				lines = append(lines, wrapped(impl.SampleStream(list, room, salt)), shownDistinct(list, room, salt))
			}
		}
		for _, salt := range append(awkwardKeys(), twoNoneSalt) {
			lines = append(lines, wrapped(impl.SampleSeen(list, salt)), shownDistinct(list, 1, salt))
		}
		for _, other := range awkwardStreams() {
			for _, level := range append([]int64{0, 1, 31, 32, 33}, awkwardIntegers()...) {
				lines = append(lines, shownJoined(level, list, 0, other, 128, 1), shownJoined(0, list, level, other, 2, level))
			}
			for _, room := range awkwardRooms() {
				lines = append(lines, shownJoined(0, list, 1, other, room, 1))
			}
		}
	}
	return lines
}

func TestPromise1WindowsReturnEqualResults(t *testing.T) {
	for _, results := range []func(uint32) []string{windowResults, decayResults, sampleResults} {
		first := results(0)
		for _, payload := range []uint32{0, 0x3fffff} {
			again := results(payload)
			for i := range first {
				wantSame(t, "again", again[i], first[i])
			}
		}
	}
}

func TestPromise1WindowsKeepTimesAndSizes(t *testing.T) {
	calls := map[string]func(w impl.Window){
		"ValidWindow":         func(w impl.Window) { impl.ValidWindow(w) },
		"SameWindow":          func(w impl.Window) { impl.SameWindow(w, w) },
		"PutWindow":           func(w impl.Window) { impl.PutWindow(w, 100, true) },
		"PutWindow late":      func(w impl.Window) { impl.PutWindow(w, 105, true) },
		"PutWindow latest":    func(w impl.Window) { impl.PutWindow(w, impl.MaxTime, true) },
		"PutWindow of false":  func(w impl.Window) { impl.PutWindow(w, 105, false) },
		"PutWindow at last":   func(w impl.Window) { impl.PutWindow(w, 7, true) },
		"PutWindow too early": func(w impl.Window) { impl.PutWindow(w, 1, true) },
		"CountWindow":         func(w impl.Window) { impl.CountWindow(w, 105) },
		"BoundsOfWindow":      func(w impl.Window) { impl.BoundsOfWindow(w, 105) },
	}
	lists := []impl.Window{
		window(100, 1, []int64{1, 2, 3, 4, 5, 6, 7}, []int64{16, 4, 4, 2, 2, 1, 1}),
		window(100, 2, []int64{4, 5, 6, 7}, []int64{4, 1, 1, 1}),
		window(100, 2, []int64{7}, []int64{1}),
		window(100, 2, []int64{}, []int64{}),
		window(100, 1, []int64{1, 2, 3}, []int64{1, 1, 1}),
		fallenWindow(1, evenCounts(2, 21)...),
		fallenWindow(16, 10, 17, 17, 17, 17, 17, 17, 16),
	}
	for what, call := range calls {
		for _, w := range lists {
			w.Times, w.Sizes = roomy(w.Times), roomy(w.Sizes)
			before := shown(w, whole(w.Times), whole(w.Sizes))
			call(w)
			wantSame(t, what, shown(w, whole(w.Times), whole(w.Sizes)), before)
		}
	}
}

func TestPromise1WindowsKeepLists(t *testing.T) {
	ten := []int64{2, 3, 4, 5, 6, 7, 8, 9, 10, 11}
	calls := map[string]func(list []int64){
		"CountExactly":          func(list []int64) { impl.CountExactly(list, repeated(true, len(list)), 3, 2) },
		"LeastOfWindow":         func(list []int64) { impl.LeastOfWindow(list, 2) },
		"GreatestOfWindow":      func(list []int64) { impl.GreatestOfWindow(list, 2) },
		"MiddleOfWindow":        func(list []int64) { impl.MiddleOfWindow(list, 3) },
		"MiddleOfWindow of all": func(list []int64) { impl.MiddleOfWindow(list, 128) },
		"OftenInWindow":         func(list []int64) { impl.OftenInWindow(list, 3) },
		"SampleStream":          func(list []int64) { impl.SampleStream(list, 2, 1) },
		"SampleSeen":            func(list []int64) { impl.SampleSeen(list, 1) },
		"TimeSample":            func(list []int64) { impl.TimeSample(list, list, 3, 2, 1) },
		"TimeSample of keys":    func(list []int64) { impl.TimeSample(ten[:len(list)], list, 9, 9, 1) },
		"SumOfSample":           func(list []int64) { impl.SumOfSample(repeated(float32(2), 20), list, 1) },
		"DistinctSample":        func(list []int64) { impl.DistinctSample(list, 128, 1) },
		"DistinctSample of few": func(list []int64) { impl.DistinctSample(list, 1, 1) },
		"JoinDistinct":          func(list []int64) { impl.JoinDistinct(0, list, 0, ten, 128, 1) },
		"JoinDistinct, second":  func(list []int64) { impl.JoinDistinct(0, ten, 0, list, 10, 1) },
		"JoinDistinct, both":    func(list []int64) { impl.JoinDistinct(0, list, 1, list, 3, 1) },
	}
	for what, call := range calls {
		for _, list := range [][]int64{{3, 1, 2}, {1, 2, 3}, {1, 2, 4, 8, 9}, {5}, {5, 5, 5}, {4, 4, 3, 3, 2, 2, 4, 1}, {}, {9, -1, 3}, ten} {
			list = roomy(list)
			before := shown(whole(list))
			call(list)
			wantSame(t, what, shown(whole(list)), before)
		}
	}
}

func TestPromise1WindowsKeepNumbers(t *testing.T) {
	calls := map[string]func(list []float32){
		"MeansOfWindow":         func(list []float32) { impl.MeansOfWindow(list, 2) },
		"SmoothStream":          func(list []float32) { impl.SmoothStream(list, 0.5) },
		"WeighedSample":         func(list []float32) { impl.WeighedSample(list, 2, 1) },
		"WeighedSample of more": func(list []float32) { impl.WeighedSample(list, 128, 1) },
		"SumOfSample":           func(list []float32) { impl.SumOfSample(list, []int64{0}, 2) },
	}
	for what, call := range calls {
		for _, list := range [][]float32{{3, 1, 2}, {5}, {1, 2, 3, 4, 5}, numbers(minusZero, plusZero, leastBits), numbers(greatest, greatest|minusZero, greatest), {}, numbers(0x3f800000, noNumber)} {
			list = roomy(list)
			before := shown(whole(list))
			call(list)
			wantSame(t, what, shown(whole(list)), before)
		}
	}
	bits := []bool{true, false, true, false, true}
	before := shown(bits)
	impl.CountExactly([]int64{1, 2, 3}, bits[:3], 3, 2)
	impl.CountExactly([]int64{1, 2, 3}, bits[:2], 3, 2)
	wantSame(t, "CountExactly", shown(bits), before)
}

// partsOfWindow are the lists of a window.
func partsOfWindow(w impl.Window, ok bool) ([]any, bool) {
	return []any{w.Times, w.Sizes}, ok
}

// partOf is the only list of a result.
func partOf[T any](list T, ok bool) ([]any, bool) {
	return []any{list}, ok
}

func TestPromise1WindowsReturnNewLists(t *testing.T) {
	list, keys, weights := roomy([]int64{3, 1, 2}), roomy([]int64{1, 2, 4, 8}), roomy([]float32{3, 1, 2})
	w := window(100, 1, roomy([]int64{1, 2, 3, 4, 5, 6, 7}), roomy([]int64{16, 4, 4, 2, 2, 1, 1}))
	few, empty := window(100, 2, roomy([]int64{7}), roomy([]int64{1})), window(100, 2, roomy([]int64{}), roomy([]int64{}))
	args := []any{whole(list), whole(keys), whole(weights), whole(w.Times), whole(w.Sizes), whole(few.Times), whole(few.Sizes), whole(empty.Times), whole(empty.Sizes)}
	calls := map[string]func() ([]any, bool){
		"PutWindow":               func() ([]any, bool) { return partsOfWindow(impl.PutWindow(w, 7, true)) },
		"PutWindow of false":      func() ([]any, bool) { return partsOfWindow(impl.PutWindow(w, 7, false)) },
		"PutWindow late":          func() ([]any, bool) { return partsOfWindow(impl.PutWindow(w, 104, true)) },
		"PutWindow of late false": func() ([]any, bool) { return partsOfWindow(impl.PutWindow(w, 104, false)) },
		"PutWindow of few":        func() ([]any, bool) { return partsOfWindow(impl.PutWindow(few, 8, true)) },
		"PutWindow of few, false": func() ([]any, bool) { return partsOfWindow(impl.PutWindow(few, 8, false)) },
		"PutWindow at first":      func() ([]any, bool) { return partsOfWindow(impl.PutWindow(empty, 8, true)) },
		"PutWindow of none":       func() ([]any, bool) { return partsOfWindow(impl.PutWindow(empty, 8, false)) },
		"PutWindow of all left":   func() ([]any, bool) { return partsOfWindow(impl.PutWindow(w, 1000, false)) },
		"LeastOfWindow":           func() ([]any, bool) { return partOf(impl.LeastOfWindow(list, 1)) },
		"GreatestOfWindow":        func() ([]any, bool) { return partOf(impl.GreatestOfWindow(list, 1)) },
		"MiddleOfWindow":          func() ([]any, bool) { return partOf(impl.MiddleOfWindow(list, 1)) },
		"OftenInWindow":           func() ([]any, bool) { return partOf(impl.OftenInWindow(list, 1)) },
		"MeansOfWindow":           func() ([]any, bool) { return partOf(impl.MeansOfWindow(weights, 1)) },
		"SmoothStream":            func() ([]any, bool) { return partOf(impl.SmoothStream(weights, 1)) },
		"SampleStream":            func() ([]any, bool) { return partOf(impl.SampleStream(list, 2, 1)) },
		"SampleSeen":              func() ([]any, bool) { return partOf(impl.SampleSeen(list, 1)) },
		"WeighedSample": func() ([]any, bool) {
			sample, _, ok := impl.WeighedSample(weights, 2, 1)
			return []any{sample}, ok
		},
		"DistinctSample": func() ([]any, bool) {
			_, sample, ok := impl.DistinctSample(keys, 9, 1)
			return []any{sample}, ok
		},
		"JoinDistinct": func() ([]any, bool) {
			_, sample, ok := impl.JoinDistinct(0, keys, 0, keys, 9, 1)
			return []any{sample}, ok
		},
		"JoinDistinct with none": func() ([]any, bool) {
			_, sample, ok := impl.JoinDistinct(0, keys, 0, nil, 9, 1)
			return []any{sample}, ok
		},
	}
	for what, call := range calls {
		wantNew(t, what, args, func() []any {
			lists, ok := call()
			wantTrue(t, what, ok)
			return lists
		})
	}
}

func TestPromise1WindowsFailWithZeroValues(t *testing.T) {
	noInteger, noTwo, noList, noNumbers := shown(0, false), shown(0, 0, false), shown([]int64{}, false), shown([]float32{}, false)
	for what, w := range invalidWindows() {
		low, high, ok := impl.BoundsOfWindow(w, 200)
		wantSame(t, "BoundsOfWindow with "+what, shown(low, high, ok), noTwo)
		wantSame(t, "CountWindow with "+what, wrapped(impl.CountWindow(w, 200)), noInteger)
		wantSame(t, "PutWindow with "+what, wrapped(impl.PutWindow(w, 200, true)), shown(impl.Window{}, false))
	}
	for what, d := range invalidDecays() {
		wantSame(t, "DecayAt with "+what, wrapped(impl.DecayAt(d, 3)), shown(float32(0), false))
		wantSame(t, "PutDecay with "+what, wrapped(impl.PutDecay(d, 3, 1)), shown(impl.Decay{}, false))
		wantSame(t, "JoinDecays with "+what, wrapped(impl.JoinDecays(d, d)), shown(impl.Decay{}, false))
	}
	for what, list := range notReadings() {
		for _, call := range ofWindow() {
			wantSame(t, "integers of a window with "+what, wrapped(call(list, 2)), noList)
		}
	}
	for what, keys := range notStreamKeys() {
		wantSame(t, "SampleStream with "+what, wrapped(impl.SampleStream(keys, 2, 1)), noList)
		wantSame(t, "SampleSeen with "+what, wrapped(impl.SampleSeen(keys, 1)), noList)
	}
	for what, list := range notWeights() {
		wantSame(t, "WeighedSample with "+what, shownWeighed(list, 2, 1), shown([]int64{}, float32(0), false))
		wantSame(t, "SumOfSample with "+what, wrapped(impl.SumOfSample(list, nil, 1)), shown(float32(0), false))
	}
	for what, list := range notStreams() {
		wantSame(t, "MeansOfWindow with "+what, wrapped(impl.MeansOfWindow(list, 1)), noNumbers)
		wantSame(t, "SmoothStream with "+what, wrapped(impl.SmoothStream(list, 1)), noNumbers)
	}
	wantSame(t, "CountExactly", wrapped(impl.CountExactly([]int64{2, 1}, []bool{true, true}, 2, 2)), noInteger)
	wantSame(t, "TimeSample", wrapped(impl.TimeSample([]int64{2, 1}, []int64{5, 5}, 2, 2, 1)), noInteger)
	wantSame(t, "TimeSample of none", wrapped(impl.TimeSample([]int64{2}, []int64{5}, 9, 2, 1)), noInteger)
	wantSame(t, "DistinctSample", shownDistinct(twoNone, 1, twoNoneSalt), shown(0, []int64{}, false))
	wantSame(t, "JoinDistinct", shownJoined(7, twoNone[:1], 3, twoNone[1:], 1, twoNoneSalt), shown(0, []int64{}, false))
}
