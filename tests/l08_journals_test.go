package tests

import (
	"fmt"
	"slices"
	"strconv"
	"strings"
	"testing"

	"loop.example/g01347/impl"
)

// journal is the journal of lines, made without the program.
func journal(lines ...string) string {
	text, check := strings.Builder{}, int64(0)
	for _, line := range lines {
		check = checkNumber(check, line)
		text.WriteString(strconv.FormatInt(check, 10) + " " + line + "\n")
	}
	return text.String()
}

// recovered tells what is recovered of a journal.
func recovered(text string) string {
	lines, size, ok := impl.RecoverJournal(text)
	return short(fmt.Sprintf("%q %d %v", lines, size, ok))
}

// wantRecovered checks that a text begins with the journal of just these lines.
func wantRecovered(t *testing.T, what, text string, lines ...string) {
	t.Helper()
	if got, want := recovered(text), short(fmt.Sprintf("%q %d true", slices.Concat([]string{}, lines), len(journal(lines...)))); got != want {
		t.Errorf("%s, of %q: got %s, want %s", what, short(text), got, want)
	}
}

// wantJournal checks that lines have a journal, which is told without the program.
func wantJournal(t *testing.T, what string, lines ...string) {
	t.Helper()
	text, ok := impl.JournalOf(lines)
	if want := journal(lines...); !ok || text != want {
		t.Errorf("%s, of %d lines: got %q, %v, want %q", what, len(lines), short(text), ok, short(want))
	}
}

// wantNoJournal checks that lines have no journal.
func wantNoJournal(t *testing.T, what string, lines ...string) {
	t.Helper()
	text, ok := impl.JournalOf(lines)
	wantShown(t, what, shown(short(text), ok), "", false)
}

// someLines are the lines of journals.
func someLines() [][]string {
	return [][]string{
		{},
		{""},
		{"", ""},
		{" "},
		{"  ", "", " a"},
		{"count", "full"},
		{"a", "a", "a"},
		{"put 5 ", "", "in 5"},
		{"0 a", "12 b"},
		{"\xff\x00", "\r"},
		{"keys 4,4", "true 3", "true 4", "what is this", "put -1", "sieve 1,0;1", "zeros"},
		{strings.Repeat("x", 3000), "é", strings.Repeat(" ", 100)},
	}
}

func TestJournalOf(t *testing.T) {
	texts := []string{"", "0 \n", "0 \n0 \n", "205  \n", "52034   \n52034 \n30851  a\n", "7592 count\n24262 full\n", "270 a\n44751 a\n42577 a\n", "33453 put 5 \n33453 \n60567 in 5\n", "45023 0 a\n47380 12 b\n", "54794 \xff\x00\n45223 \r\n"}
	for i, lines := range someLines() {
		if i < len(texts) {
			wantSame(t, "the journal", journal(lines...), texts[i])
		}
		wantJournal(t, "JournalOf", lines...)
		wantRecovered(t, "the journal", journal(lines...), lines...)
	}
	wantJournal(t, "JournalOf nil")
}

func TestJournalsOfLinesWithANewline(t *testing.T) {
	for _, line := range []string{"\n", "a\n", "\na", "a\nb", "count\nfull", "\n\n", " \n", "\r\n", strings.Repeat("x", 5000) + "\n"} {
		for _, lines := range [][]string{{line}, {"count", line}, {line, "count"}, {"", line, ""}} {
			wantNoJournal(t, "JournalOf a line with a newline", lines...)
		}
	}
}

// fillingLines are lines whose journal has so many bytes, the last of which are in one line.
func fillingLines(t *testing.T, size int, first ...string) []string {
	t.Helper()
	for n := max(0, size-len(journal(first...))-8); n < size; n++ {
		lines := append(slices.Clone(first), strings.Repeat("a", n))
		if len(journal(lines...)) == size {
			return lines
		}
	}
	t.Fatalf("no journal of %d bytes", size)
	return nil
}

func TestJournalsOfTheGreatestSize(t *testing.T) {
	for _, first := range [][]string{{}, {"count", "", "full"}, repeated("", 5000), repeated("", 5330)} {
		lines := fillingLines(t, 16000, first...)
		wantJournal(t, "JournalOf MaxScript bytes", lines...)
		wantRecovered(t, "a journal of MaxScript bytes", journal(lines...), lines...)
		wantNoJournal(t, "JournalOf a line more", append(lines, "")...)
		wantNoJournal(t, "JournalOf a line more at first", append([]string{""}, lines...)...)
		wantSame(t, "RecoverJournal with a byte behind", recovered(journal(lines...)+"x"), "[] 0 false")
	}
	for _, size := range []int{16001, 16002, 16004} {
		lines := fillingLines(t, size)
		wantNoJournal(t, "JournalOf more than MaxScript bytes", lines...)
		wantSame(t, "RecoverJournal of more than MaxScript bytes", recovered(journal(lines...)), "[] 0 false")
	}
	wantJournal(t, "JournalOf 5333 empty lines", repeated("", 5333)...)
	wantNoJournal(t, "JournalOf 5334 empty lines", repeated("", 5334)...)
	wantNoJournal(t, "JournalOf very many lines", repeated("", 100000)...)
	wantNoJournal(t, "JournalOf a line of MaxScript bytes", strings.Repeat("x", 16000))
	wantNoJournal(t, "JournalOf a very long line", strings.Repeat("x", 100000))
	wantRecovered(t, "5333 empty lines", strings.Repeat("0 \n", 5333)+"x", repeated("", 5333)...)
	wantRecovered(t, "16000 bytes of no journal", strings.Repeat("x", 16000))
	wantRecovered(t, "16000 newlines", strings.Repeat("\n", 16000))
	for _, text := range []string{strings.Repeat("x", 16001), strings.Repeat("0 \n", 50000), journal("count") + strings.Repeat("x", 16000)} {
		wantSame(t, "RecoverJournal of more than MaxScript bytes", recovered(text), "[] 0 false")
	}
}

func TestJournalsThatAreCut(t *testing.T) {
	for _, lines := range someLines() {
		text, whole := journal(lines...), 0
		for cut := range len(text) + 1 {
			if whole < len(lines) && cut == len(journal(lines[:whole+1]...)) {
				whole++
			}
			wantRecovered(t, "a journal that is cut", text[:cut], lines[:whole]...)
			if cut > 200 {
				break
			}
		}
	}
}

// wholeBefore is how many lines of a journal are whole before one of its bytes.
func wholeBefore(text string, at int) int {
	return strings.Count(text[:at], "\n")
}

func TestJournalsWithAByteChanged(t *testing.T) {
	for _, lines := range someLines()[:11] {
		text := journal(lines...)
		for at := range len(text) {
			for by := 1; by < 256; by++ {
				b := []byte(text)
				b[at] += byte(by)
				wantRecovered(t, "a journal with a byte changed", string(b), lines[:wholeBefore(text, at)]...)
			}
		}
	}
}

// beginningOf are the lines of the longest journal that a text begins with, found by trying all that may be lines.
func beginningOf(text string) []string {
	lines := []string{}
	for _, piece := range strings.SplitAfter(text, "\n") {
		count := len(lines)
		for at := range len(piece) {
			more := append(slices.Clone(lines), strings.TrimSuffix(piece[at:], "\n"))
			if len(lines) == count && strings.HasSuffix(piece, "\n") && strings.HasPrefix(text, journal(more...)) {
				lines = more
			}
		}
		if len(lines) == count {
			break
		}
	}
	return lines
}

func TestJournalsWithBytesMoreOrLess(t *testing.T) {
	for _, lines := range someLines()[1:11] {
		text := journal(lines...)
		wantSame(t, "all of them", fmt.Sprintf("%q", beginningOf(text)), fmt.Sprintf("%q", lines))
		for _, other := range []string{"\n", " ", "x", "0", "0 ", "271 a\n", "0 \r\n", "x \n", "\x00", "\xff\xfe", "count\n", "65003 \n", "7592 count", strings.Repeat("\n", 3000)} {
			wantRecovered(t, "a journal with bytes behind it", text+other, lines...)
			wantRecovered(t, "a journal with bytes before it", "y"+other+text)
		}
		for at := range len(text) {
			less := text[:at] + text[at+1:]
			wantRecovered(t, "a journal without a byte", less, beginningOf(less)...)
			for _, more := range []string{"\n", " ", "0", "1", "+", "-", "x", "\x00"} {
				near := text[:at] + more + text[at:]
				wantRecovered(t, "a journal with a byte more", near, beginningOf(near)...)
			}
		}
	}
}

func TestJournalsWithOtherCheckNumbers(t *testing.T) {
	for _, text := range []string{"0270 a\n", "00270 a\n", "+270 a\n", "-270 a\n", " 270 a\n", "270  a\n", "270\ta\n", "270a\n", "270.0 a\n", "0x10e a\n", "2_70 a\n", "２７０ a\n", "271 a\n", "269 a\n", "65273 a\n", "a 270\n", "a\n", " a\n", "270\n", "270 \n", "270 b\n", "270 a", "270 a \n", "270 a\r\n", "00 \n", "-0 \n", "+0 \n", "0\n", " \n", "\n", "0 ", "0", "65003 \n", "270 a\x00\n"} {
		wantRecovered(t, "another check number", text)
		wantRecovered(t, "another check number behind others", "7592 count\n24262 full\n"+text, "count", "full")
	}
	wantRecovered(t, "the check number", "270 a\n", "a")
	wantRecovered(t, "a second check number with a zero", "270 a\n044751 a\n", "a")
	wantRecovered(t, "a second check number with a sign", "270 a\n+44751 a\n", "a")
	wantRecovered(t, "a second check number from 0 on", "270 a\n270 a\n", "a")
	wantRecovered(t, "a second line that begins with its check number", "270 a\n44751 270 a\n", "a")
}

func TestJournalsWhoseLinesAreInAnotherOrder(t *testing.T) {
	lines := someLines()[10]
	parts := strings.SplitAfter(journal(lines...), "\n")
	parts = parts[:len(lines)]
	for i := range parts {
		for k := range i {
			other := slices.Clone(parts)
			other[i], other[k] = other[k], other[i]
			wantRecovered(t, "lines in another order", strings.Join(other, ""), lines[:k]...)
		}
		wantRecovered(t, "a line left out", strings.Join(slices.Delete(slices.Clone(parts), i, i+1), ""), lines[:i]...)
		wantRecovered(t, "a line twice", strings.Join(slices.Insert(slices.Clone(parts), i, parts[i]), ""), lines[:i+1]...)
	}
}

// journalRan tells the desk behind the lines of a journal, and how many they are.
func journalRan(d impl.Desk, text string) string {
	end, count, ok := impl.RunJournal(d, text)
	return shown(shownDesk(end), count, ok)
}

func TestRunJournal(t *testing.T) {
	lines := someLines()[10]
	text, first := journal(lines...), len(journal(lines[0]))
	step, end := someDesk(), someDesk()
	step.Keys, end.Keys = []int64{4, 4}, []int64{4, 4}
	end.Window, end.Sieve = window(10, 1, []int64{2, 3, 4}, []int64{2, 2, 1}), sieve(1, 0, "1")
	wantShown(t, "no journal", journalRan(someDesk(), ""), shownDesk(someDesk()), 0, true)
	wantShown(t, "a journal", journalRan(someDesk(), text), shownDesk(end), 7, true)
	for _, behind := range []string{"x", "\n", "0 keys 1\n", "15 keys 1\n", text} {
		wantShown(t, "a journal with bytes behind it", journalRan(someDesk(), text+behind), shownDesk(end), 7, true)
	}
	for cut := range 10 {
		wantShown(t, "a journal that is cut", journalRan(someDesk(), text[:first+cut]), shownDesk(step), 1, true)
		wantShown(t, "a journal without a whole line", journalRan(someDesk(), text[:cut]), shownDesk(someDesk()), 0, true)
	}
	wantShown(t, "lines without check numbers", journalRan(someDesk(), "keys 4,4\n"), shownDesk(someDesk()), 0, true)
	wantShown(t, "lines that change nothing", journalRan(someDesk(), journal("", "what", "keys none", "put -1", " ", "keys")), shownDesk(someDesk()), 6, true)
	wantShown(t, "MaxScript bytes", journalRan(someDesk(), text[:first]+strings.Repeat("x", impl.MaxScript-first)), shownDesk(step), 1, true)
	wantShown(t, "many lines", journalRan(someDesk(), strings.Repeat("0 \n", 5333)), shownDesk(someDesk()), 5333, true)
}

func TestRunJournalWithInvalidOnes(t *testing.T) {
	for what, d := range invalidDesks() {
		for _, text := range []string{"", journal("keys"), journal(""), "x"} {
			after, count, ok := impl.RunJournal(d, text)
			wantShown(t, "RunJournal with "+what, shown(after, count, ok), impl.Desk{}, 0, false)
		}
	}
	for _, text := range []string{strings.Repeat("0 \n", 5334), strings.Repeat("x", 16001), journal("keys 4,4") + strings.Repeat("x", 16000)} {
		after, count, ok := impl.RunJournal(someDesk(), text)
		wantShown(t, "RunJournal of more than MaxScript bytes", shown(after, count, ok), impl.Desk{}, 0, false)
	}
}
