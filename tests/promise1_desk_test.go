package tests

import (
	"fmt"
	"slices"
	"strings"
	"testing"

	"loop.example/g01347/impl"
)

// awkwardDesks are desks of all kinds.
func awkwardDesks() []impl.Desk {
	return append(someDesks(), ordered(invalidDesks())...)
}

// everyLine has all forms, and some that are refused or have no form.
func everyLine() []string {
	lines := []string{"sieve", "zeros", "window", "keys", "count", "full", "sieve 1,3;01", "zeros 5;" + manyZeros(16), "window 9,1;5;1", "keys 4,3", "keys none", "sieve x", "zeros 5;" + manyZeros(8), "window 9,1;5;3", "", " ", "what", "put", "put 5 5", "count ", "put 90", "true 3", "false 3", "false 12", "true 12", "true 63", "true 1000", "false 13"}
	for _, name := range ofNumbers() {
		lines = append(lines, name+" 5", name+" 1000", name+" 0", name+" -1", name+" x", name+" ")
	}
	return lines
}

// awkwardLinesOfScripts are lists of lines, and of what is no line.
func awkwardLinesOfScripts() [][]string {
	lists := append(someLines(), nil, []string{"a\nb"}, []string{"a", "\n"}, everyLine(), repeated("", 5333), repeated("", 5334), repeated("x", 20000), awkwardTexts())
	return append(lists, []string{strings.Repeat("x", 15993)}, []string{strings.Repeat("x", 16000)})
}

// deskResults has a line for each function of desks.
func deskResults() []string {
	results, lists := []string{shownDesk(impl.NewDesk())}, awkwardLinesOfScripts()
	for i, d := range awkwardDesks() {
		results = append(results, shown("desk", impl.ValidDesk(d)), wrapped(impl.SieveText(d.Sieve)), wrapped(impl.ZerosText(d.Zeros)), wrapped(impl.WindowText(d.Window)))
		for _, other := range awkwardDesks() {
			results = append(results, shown("same", impl.SameDesk(d, other)))
		}
		for _, line := range everyLine() {
			results = append(results, carried(d, line))
		}
		for k, lines := range lists {
			// Valid desks, which are the first ones, carry out all of them.
			if i < len(someDesks()) || i%len(lists) == k {
				results = append(results, short(ran(d, scriptOf(lines))), short(ran(d, strings.Join(lines, "\n"))), journalRan(d, journal(lines...)), journalRan(d, journal(lines...)+"x"))
			}
		}
	}
	return results
}

// deskTextResults has a line for each function of texts.
func deskTextResults() []string {
	results := []string{}
	texts := append(awkwardTexts(), "1,0;1", "7;"+manyZeros(16), "10,1;2,3;2,1", "1,0;", ";", ";;", "10,1;none;none", "no\nwhat\nok\n", "0 \n", "270 a\n0 \n", strings.Repeat("0 \n", 5333), strings.Repeat("0 \n", 5334), strings.Repeat("\n", 16000), strings.Repeat("\n", 16001), strings.Repeat(";", 16001), "1,0;"+strings.Repeat("0", 50000))
	for _, text := range texts {
		results = append(results, wrapped(impl.ReadSieve(text)), wrapped(impl.ReadZeros(text)), wrapped(impl.ReadWindow(text)), shownCounts(text), recovered(text))
		for _, d := range []impl.Desk{freshDesk(), fullDesk()} {
			results = append(results, carried(d, text), short(ran(d, text)), journalRan(d, text))
		}
	}
	for _, lines := range awkwardLinesOfScripts() {
		results = append(results, wrapped(impl.JournalOf(lines)), recovered(journal(lines...)))
	}
	return results
}

func TestPromise1DesksReturnEqualResults(t *testing.T) {
	for _, results := range []func() []string{deskResults, deskTextResults} {
		first, again := results(), results()
		wantTrue(t, "as many results", len(first) == len(again))
		for i := range first {
			wantSame(t, "again", again[i], first[i])
		}
	}
}

// roomyDesk is a desk with room behind its lists.
func roomyDesk(d impl.Desk) impl.Desk {
	d.Sieve.Bits = append(slices.Clone(d.Sieve.Bits), true, false, true)[:len(d.Sieve.Bits)]
	d.Zeros.Cells, d.Keys = roomy(d.Zeros.Cells), roomy(d.Keys)
	d.Window.Times, d.Window.Sizes = roomy(d.Window.Times), roomy(d.Window.Sizes)
	return d
}

// listsOfDesk are the lists of a desk, with the room behind them.
func listsOfDesk(d impl.Desk) []any {
	return []any{whole(d.Sieve.Bits), whole(d.Zeros.Cells), whole(d.Window.Times), whole(d.Window.Sizes), whole(d.Keys)}
}

func TestPromise1DesksAreKept(t *testing.T) {
	calls := map[string]func(d impl.Desk){
		"ValidDesk":  func(d impl.Desk) { impl.ValidDesk(d) },
		"SameDesk":   func(d impl.Desk) { impl.SameDesk(d, d); impl.SameDesk(d, someDesk()) },
		"SieveText":  func(d impl.Desk) { impl.SieveText(d.Sieve) },
		"ZerosText":  func(d impl.Desk) { impl.ZerosText(d.Zeros) },
		"WindowText": func(d impl.Desk) { impl.WindowText(d.Window) },
		"RunDesk":    func(d impl.Desk) { impl.RunDesk(d, scriptOf(everyLine())) },
		"RunJournal": func(d impl.Desk) { impl.RunJournal(d, journal(everyLine()...)) },
	}
	for _, line := range everyLine() {
		calls[fmt.Sprintf("the line %q", line)] = func(d impl.Desk) { impl.DeskCommand(d, line) }
	}
	for what, call := range calls {
		for _, d := range append(someDesks(), ordered(invalidDesks())[3], impl.Desk{}) {
			d = roomyDesk(d)
			before := shown(shownDesk(d), listsOfDesk(d))
			call(d)
			wantSame(t, what, shown(shownDesk(d), listsOfDesk(d)), before)
		}
	}
}

func TestPromise1LinesOfJournalsAreKept(t *testing.T) {
	for _, lines := range awkwardLinesOfScripts() {
		list := append(slices.Clone(lines), "more", "and more", "and\nmore")
		before := fmt.Sprintf("%q", list)
		impl.JournalOf(list[:len(lines)])
		wantTrue(t, "JournalOf keeps the lines", fmt.Sprintf("%q", list) == before)
	}
	text := journal("a", "b", "c")
	lines, _, _ := impl.RecoverJournal(text)
	lines = lines[:cap(lines)]
	for i := range lines {
		lines[i] = "other"
	}
	wantRecovered(t, "RecoverJournal after a change of another result", text, "a", "b", "c")
}

func TestPromise1DesksReturnNewLists(t *testing.T) {
	desks := map[string]impl.Desk{"a new desk": roomyDesk(freshDesk()), "some desk": roomyDesk(someDesk()), "a full desk": roomyDesk(fullDesk()), "the least desk": roomyDesk(leastDesk())}
	for name, d := range desks {
		calls := map[string]func() (impl.Desk, bool){
			"NewDesk":                 func() (impl.Desk, bool) { return impl.NewDesk(), true },
			"RunDesk of nothing":      func() (impl.Desk, bool) { end, _, ok := impl.RunDesk(d, ""); return end, ok },
			"RunDesk of no form":      func() (impl.Desk, bool) { end, _, ok := impl.RunDesk(d, "\n\n"); return end, ok },
			"RunDesk of a part":       func() (impl.Desk, bool) { end, _, ok := impl.RunDesk(d, "keys 4,3\n"); return end, ok },
			"RunDesk of every line":   func() (impl.Desk, bool) { end, _, ok := impl.RunDesk(d, scriptOf(everyLine())); return end, ok },
			"RunJournal of nothing":   func() (impl.Desk, bool) { end, _, ok := impl.RunJournal(d, ""); return end, ok },
			"RunJournal of no lines":  func() (impl.Desk, bool) { end, _, ok := impl.RunJournal(d, "x"); return end, ok },
			"RunJournal of a put key": func() (impl.Desk, bool) { end, _, ok := impl.RunJournal(d, journal("put 5")); return end, ok },
		}
		for _, line := range everyLine() {
			calls[fmt.Sprintf("the line %q", line)] = func() (impl.Desk, bool) { after, _, ok := impl.DeskCommand(d, line); return after, ok }
		}
		for what, call := range calls {
			wantNew(t, what+" at "+name, listsOfDesk(d), func() []any {
				after, ok := call()
				wantTrue(t, what, ok)
				return []any{after.Sieve.Bits, after.Zeros.Cells, after.Window.Times, after.Window.Sizes, after.Keys}
			})
		}
	}
}

func TestPromise1ReadPartsAreNew(t *testing.T) {
	wantNew(t, "ReadSieve", nil, func() []any {
		s, _ := impl.ReadSieve("2,7;0101")
		return []any{s.Bits}
	})
	wantNew(t, "ReadZeros", nil, func() []any {
		z, _ := impl.ReadZeros("7;" + manyZeros(16))
		return []any{z.Cells}
	})
	wantNew(t, "ReadWindow", nil, func() []any {
		w, _ := impl.ReadWindow("10,1;2,3;2,1")
		return []any{w.Times, w.Sizes}
	})
}

func TestPromise1DesksFailWithZeroValues(t *testing.T) {
	noDesk := shown(impl.Desk{}, "", false)
	for what, d := range invalidDesks() {
		for _, line := range everyLine() {
			after, output, ok := impl.DeskCommand(d, line)
			wantSame(t, "DeskCommand with "+what, shown(after, output, ok), noDesk)
		}
		for _, script := range []string{"", "keys\n", "keys 4,3\nkeys\n"} {
			end, outputs, ok := impl.RunDesk(d, script)
			wantSame(t, "RunDesk with "+what, shown(end, outputs, ok), noDesk)
		}
		end, count, ok := impl.RunJournal(d, journal("keys 4,3"))
		wantSame(t, "RunJournal with "+what, shown(end, count, ok), shown(impl.Desk{}, 0, false))
	}
	for _, text := range []string{"", "none", ";", "1,0;x", "7;0", "10,1;1;3", "no", strings.Repeat("0 \n", 6000)} {
		wantSame(t, "ReadSieve", wrapped(impl.ReadSieve(text)), shown(impl.Sieve{}, false))
		wantSame(t, "ReadZeros", wrapped(impl.ReadZeros(text)), shown(impl.Zeros{}, false))
		wantSame(t, "ReadWindow", wrapped(impl.ReadWindow(text)), shown(impl.Window{}, false))
	}
	end, outputs, ok := impl.RunDesk(someDesk(), "keys 4,3\nkeys")
	wantSame(t, "RunDesk without a last newline", shown(end, outputs, ok), noDesk)
	wantSame(t, "CountOutputs", shownCounts("no\nno"), shown(0, 0, false))
	wantNoJournal(t, "JournalOf", "a", "b\n")
	lines, size, ok := impl.RecoverJournal(strings.Repeat("0 \n", 6000))
	wantTrue(t, "RecoverJournal", len(lines) == 0 && size == 0 && !ok)
}
