package tests

import (
	"math"
	"slices"
	"strconv"
	"strings"
	"testing"

	"loop.example/g01347/impl"
)

// desk is the desk with these parts, made without the program.
func desk(s impl.Sieve, z impl.Zeros, w impl.Window, keys ...int64) impl.Desk {
	return impl.Desk{Sieve: s, Zeros: z, Window: w, Keys: keys}
}

// freshDesk is a new desk, made without the program.
func freshDesk() impl.Desk {
	return desk(partSieve(2, 7, 32, 0), zeros(7, make([]int64, 16)...), window(10, 1, nil, nil), 1, 2, 3)
}

// someDesk has a sieve and zeros with different salts.
func someDesk() impl.Desk {
	return desk(sieve(2, 7, "0100110010"), zeros(9, 3, 0, 0, 5, 1, 0, 0, 0, 2, 0, 0, 0, 0, 0, 0, 1), window(10, 1, []int64{2, 3}, []int64{2, 1}), 5, 1, 5, 1000000)
}

// fullDesk has as much of all as a desk can have.
func fullDesk() impl.Desk {
	bits := partSieve(8, greatestKey, 512, 0)
	for i := range bits.Bits {
		bits.Bits[i] = i%3 == 0
	}
	return desk(bits, zeros(greatestKey, told(64, func(i int64) int64 { return i * 7 % 34 })...), fallenWindow(16, 17, 17, 17, 13), told(64, func(i int64) int64 { return i * i * 1000003 })...)
}

// leastDesk has as little of all as a desk can have.
func leastDesk() impl.Desk {
	return desk(sieve(1, 0, "1"), zeros(0, make([]int64, 16)...), window(1, 1, nil, nil), 0)
}

// someDesks are valid.
func someDesks() []impl.Desk {
	return []impl.Desk{freshDesk(), someDesk(), fullDesk(), leastDesk(), changedDesk(func(d *impl.Desk) { d.Keys = repeated(int64(greatestKey), 64) })}
}

// changedDesk is someDesk with a change.
func changedDesk(change func(d *impl.Desk)) impl.Desk {
	d := someDesk()
	change(&d)
	return d
}

// invalidDesks pass each limit of desks by one, and far.
func invalidDesks() map[string]impl.Desk {
	list := map[string]impl.Desk{"the zero struct": {}}
	for what, s := range invalidSieves() {
		list[what+" in the sieve"] = changedDesk(func(d *impl.Desk) { d.Sieve = s })
	}
	for what, z := range invalidZeros() {
		list[what+" in the zeros"] = changedDesk(func(d *impl.Desk) { d.Zeros = z })
	}
	for what, w := range invalidWindows() {
		list[what+" in the window"] = changedDesk(func(d *impl.Desk) { d.Window = w })
	}
	for _, n := range []int{128, 256} {
		list[strconv.Itoa(n)+" cells"] = changedDesk(func(d *impl.Desk) { d.Zeros = zeros(9, make([]int64, n)...) })
	}
	for what, w := range map[string]impl.Window{"65 times": fallenWindow(16, 14, 17, 17, 17), "128 times": fallenWindow(16, 9, 17, 17, 17, 17, 17, 17, 17)} {
		list[what] = changedDesk(func(d *impl.Desk) { d.Window = w })
	}
	keys := map[string][]int64{
		"nil keys":         nil,
		"no keys":          {},
		"65 keys":          upTo(65),
		"256 keys":         upTo(256),
		"257 keys":         upTo(257),
		"5000 keys":        upTo(5000),
		"a key below":      {-1},
		"a key above":      {greatestKey + 1},
		"a last key below": {0, 5, -1},
		"a last key above": append(upTo(63), greatestKey+1),
		"the least key":    {math.MinInt64, 5},
		"the greatest key": {5, math.MaxInt64},
	}
	for what, k := range keys {
		list[what] = changedDesk(func(d *impl.Desk) { d.Keys = k })
	}
	return list
}

// listOf is the text of a list, made without the program.
func listOf(list []int64) string {
	parts := []string{}
	for _, n := range list {
		parts = append(parts, strconv.FormatInt(n, 10))
	}
	if len(parts) == 0 {
		return "none"
	}
	return strings.Join(parts, ",")
}

// sieveTextOf is the text of a sieve, made without the program.
func sieveTextOf(s impl.Sieve) string {
	text := []byte(listOf([]int64{s.Rounds, s.Salt}) + ";")
	for _, bit := range s.Bits {
		if bit {
			text = append(text, '1')
		} else {
			text = append(text, '0')
		}
	}
	return string(text)
}

// zerosTextOf is the text of zeros, made without the program.
func zerosTextOf(z impl.Zeros) string {
	return strconv.FormatInt(z.Salt, 10) + ";" + listOf(z.Cells)
}

// windowTextOf is the text of a window, made without the program.
func windowTextOf(w impl.Window) string {
	return listOf([]int64{w.Long, w.Parts}) + ";" + listOf(w.Times) + ";" + listOf(w.Sizes)
}

// shownDesk tells a desk by the texts of its parts, made without the program.
func shownDesk(d impl.Desk) string {
	return strings.Join([]string{"sieve " + sieveTextOf(d.Sieve), "zeros " + zerosTextOf(d.Zeros), "window " + windowTextOf(d.Window), "keys " + listOf(d.Keys)}, " | ")
}

func TestValidDesk(t *testing.T) {
	for _, d := range someDesks() {
		wantTrue(t, "ValidDesk "+shownDesk(d), impl.ValidDesk(d))
	}
	for _, z := range []impl.Zeros{zeros(0, make([]int64, 32)...), zeros(greatestKey, repeated(int64(33), 64)...)} {
		wantTrue(t, "ValidDesk with 32 and 64 cells", impl.ValidDesk(changedDesk(func(d *impl.Desk) { d.Zeros = z })))
	}
	for _, w := range []impl.Window{fallenWindow(16, 13, 17, 17, 17), fallenWindow(1, evenCounts(2, 21)...), window(impl.MaxTime, 16, []int64{}, []int64{})} {
		wantTrue(t, "ValidDesk with windows", impl.ValidDesk(changedDesk(func(d *impl.Desk) { d.Window = w })))
	}
	for _, keys := range [][]int64{{0}, {greatestKey}, {7, 7, 3}, upTo(64), repeated(int64(greatestKey), 64)} {
		wantTrue(t, "ValidDesk with keys", impl.ValidDesk(changedDesk(func(d *impl.Desk) { d.Keys = keys })))
	}
	for what, d := range invalidDesks() {
		wantFalse(t, "ValidDesk with "+what, impl.ValidDesk(d))
	}
}

// cloned shares no list with d.
func cloned(d impl.Desk) impl.Desk {
	d.Sieve.Bits, d.Zeros.Cells, d.Keys = slices.Clone(d.Sieve.Bits), slices.Clone(d.Zeros.Cells), slices.Clone(d.Keys)
	d.Window.Times, d.Window.Sizes = slices.Clone(d.Window.Times), slices.Clone(d.Window.Sizes)
	return d
}

func TestSameDesk(t *testing.T) {
	for what, d := range invalidDesks() {
		wantTrue(t, "SameDesk of itself with "+what, impl.SameDesk(d, cloned(d)))
	}
	changes := map[string]func(d *impl.Desk){
		"rounds":       func(d *impl.Desk) { d.Sieve.Rounds++ },
		"salt":         func(d *impl.Desk) { d.Sieve.Salt++ },
		"first bit":    func(d *impl.Desk) { d.Sieve.Bits[0] = !d.Sieve.Bits[0] },
		"last bit":     func(d *impl.Desk) { last := len(d.Sieve.Bits) - 1; d.Sieve.Bits[last] = !d.Sieve.Bits[last] },
		"bits":         func(d *impl.Desk) { d.Sieve.Bits = append(d.Sieve.Bits, false) },
		"no bits":      func(d *impl.Desk) { d.Sieve.Bits = nil },
		"salt of runs": func(d *impl.Desk) { d.Zeros.Salt++ },
		"first cell":   func(d *impl.Desk) { d.Zeros.Cells[0]++ },
		"last cell":    func(d *impl.Desk) { d.Zeros.Cells[len(d.Zeros.Cells)-1]++ },
		"cells":        func(d *impl.Desk) { d.Zeros.Cells = append(d.Zeros.Cells, 0) },
		"fewer cells":  func(d *impl.Desk) { d.Zeros.Cells = d.Zeros.Cells[1:] },
		"long":         func(d *impl.Desk) { d.Window.Long++ },
		"parts":        func(d *impl.Desk) { d.Window.Parts++ },
		"times":        func(d *impl.Desk) { d.Window.Times = append(d.Window.Times, 9) },
		"sizes":        func(d *impl.Desk) { d.Window.Sizes = append(d.Window.Sizes, 1) },
		"first key":    func(d *impl.Desk) { d.Keys[0]++ },
		"last key":     func(d *impl.Desk) { d.Keys[len(d.Keys)-1]++ },
		"keys":         func(d *impl.Desk) { d.Keys = append(d.Keys, 0) },
		"no keys":      func(d *impl.Desk) { d.Keys = nil },
	}
	for _, d := range append(someDesks(), invalidDesks()["65 keys"], invalidDesks()["257 cells in the zeros"]) {
		wantTrue(t, "SameDesk of equal ones", impl.SameDesk(d, cloned(d)) && impl.SameDesk(d, d))
		for what, change := range changes {
			other := cloned(d)
			change(&other)
			wantFalse(t, "SameDesk of another "+what, impl.SameDesk(d, other) || impl.SameDesk(other, d))
		}
	}
	wantFalse(t, "another time", impl.SameDesk(someDesk(), changedDesk(func(d *impl.Desk) { d.Window.Times[1]++ })))
	wantFalse(t, "another size", impl.SameDesk(someDesk(), changedDesk(func(d *impl.Desk) { d.Window.Sizes[0] = 4 })))
	wantFalse(t, "keys in another order", impl.SameDesk(someDesk(), changedDesk(func(d *impl.Desk) { slices.Reverse(d.Keys) })))
	empty := impl.Desk{Sieve: impl.Sieve{Bits: []bool{}}, Zeros: zeros(0, []int64{}...), Window: window(0, 0, []int64{}, []int64{}), Keys: []int64{}}
	wantTrue(t, "SameDesk of nil and empty lists", impl.SameDesk(empty, impl.Desk{}) && impl.SameDesk(impl.Desk{}, empty))
}

func TestNewDesk(t *testing.T) {
	wantSame(t, "NewDesk", shownDesk(impl.NewDesk()), "sieve 2,7;00000000000000000000000000000000 | zeros 7;0,0,0,0,0,0,0,0,0,0,0,0,0,0,0,0 | window 10,1;none;none | keys 1,2,3")
	wantTrue(t, "NewDesk is as told", impl.ValidDesk(impl.NewDesk()) && impl.SameDesk(impl.NewDesk(), freshDesk()))
}
