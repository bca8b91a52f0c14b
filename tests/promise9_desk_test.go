package tests

import (
	"fmt"
	"slices"
	"strings"
	"testing"

	"loop.example/g01347/impl"
)

// orNo is an output, and no if what it is of failed.
func orNo(output string, ok bool) string {
	if !ok {
		return "no"
	}
	return output
}

// textOr is the text of a list, and no if there is none.
func textOr(list []int64, ok bool) string {
	text, fits := impl.ListText(list)
	return orNo(text, ok && fits)
}

// numberOr is the text of a number, and no if there is none.
func numberOr(x float32, ok bool) string {
	text, fits := impl.NumbersText([]float32{x})
	return orNo(text, ok && fits)
}

// decimalOr is an integer in decimal, and no if there is none.
func decimalOr(n int64, ok bool) string {
	return orNo(impl.Decimal(n), ok)
}

// toldByFunctions are what lines with a number output that change nothing, told by the functions of the chapters.
func toldByFunctions(d impl.Desk, n int64) map[string]string {
	in, one := impl.InSieve(d.Sieve, n)
	low, high, two := impl.BoundsOfWindow(d.Window, n)
	level, sample, three := impl.DistinctSample(d.Keys, n, d.Sieve.Salt)
	homes, four := []int64{}, true
	for _, key := range d.Keys {
		home, ok := impl.JumpHome(key, n)
		homes, four = append(homes, home), four && ok
	}
	return map[string]string{
		"in":       orNo(map[bool]string{true: "yes", false: "never"}[in], one),
		"now":      decimalOr(impl.CountWindow(d.Window, n)),
		"bounds":   textOr([]int64{low, high}, two),
		"hash":     decimalOr(impl.HashOf(n, d.Sieve.Salt)),
		"home":     decimalOr(impl.HomeOf(n, d.Keys)),
		"jump":     textOr(homes, four),
		"least":    textOr(impl.LeastHashes(d.Keys, d.Sieve.Salt, n)),
		"sample":   textOr(impl.SampleStream(d.Keys, n, d.Sieve.Salt)),
		"distinct": orNo(impl.Decimal(level)+";"+textOr(sample, three), three),
		"often":    textOr(impl.OftenInWindow(d.Keys, n)),
	}
}

// toldAlone are what lines of one word output, told by the functions of the chapters.
func toldAlone(d impl.Desk) map[string]string {
	return map[string]string{
		"sieve":  orNo(impl.SieveText(d.Sieve)),
		"zeros":  orNo(impl.ZerosText(d.Zeros)),
		"window": orNo(impl.WindowText(d.Window)),
		"keys":   textOr(d.Keys, true),
		"count":  numberOr(impl.CountOfZeros(d.Zeros)),
		"full":   numberOr(impl.FullOfSieve(d.Sieve)),
	}
}

// afterFunctions is the desk after a line with a number that may change it, told by the functions of the chapters.
func afterFunctions(d impl.Desk, name string, n int64) (impl.Desk, bool) {
	next, one, two := d, true, true
	switch name {
	case "put":
		next.Sieve, one = impl.PutSieve(d.Sieve, n)
		next.Zeros, two = impl.PutZeros(d.Zeros, n)
	default:
		next.Window, one = impl.PutWindow(d.Window, n, name == "true")
	}
	if !one || !two || !impl.ValidDesk(next) {
		return d, false
	}
	return next, true
}

// manyDesks are the desks that series of lines lead to.
func manyDesks(t *testing.T) []impl.Desk {
	t.Helper()
	list := someDesks()
	for turn := range int64(8) {
		d := freshDesk()
		for i, line := range seriesLines(turn, 1000, 400) {
			after, _, ok := impl.DeskCommand(d, line)
			wantTrue(t, "DeskCommand", ok && impl.ValidDesk(after))
			if d = after; i%20 == 3 {
				list = append(list, d)
			}
		}
	}
	return list
}

func TestPromise9DesksOutputWhatFunctionsTell(t *testing.T) {
	numbers := append([]int64{0, 1, 2, 3, 5, 7, 12, 40, 63, 64, 65, 127, 128, 129, 199, 256, 257, 1000, 5000, 999999, impl.MaxTime, impl.MaxTime + 1, greatestKey, greatestKey + 1}, awkwardIntegers()...)
	for _, d := range manyDesks(t) {
		for line, want := range toldAlone(d) {
			wantCarried(t, d, line, want, d)
		}
		for _, n := range numbers {
			if n > impl.MaxValue || n < -impl.MaxValue {
				for _, name := range ofNumbers() {
					wantCarried(t, d, name+" "+impl.Decimal(n), "no", d)
				}
				continue
			}
			for name, want := range toldByFunctions(d, n) {
				wantCarried(t, d, name+" "+impl.Decimal(n), want, d)
			}
			for _, name := range []string{"put", "true", "false"} {
				after, ok := afterFunctions(d, name, n)
				wantCarried(t, d, name+" "+impl.Decimal(n), orNo("ok", ok), after)
			}
		}
	}
}

func TestPromise9PartsArePutIn(t *testing.T) {
	desks := manyDesks(t)
	for i, d := range desks {
		from := desks[(i+37)%len(desks)]
		want := cloned(d)
		for _, name := range []string{"sieve", "zeros", "window", "keys"} {
			switch name {
			case "sieve":
				want.Sieve = from.Sieve
			case "zeros":
				want.Zeros = from.Zeros
			case "window":
				want.Window = from.Window
			case "keys":
				want.Keys = from.Keys
			}
			text := toldAlone(from)[name]
			after, output, ok := impl.DeskCommand(d, name+" "+text)
			wantTrue(t, "a part that is put in", ok && output == "ok")
			wantSame(t, "the part "+name, toldAlone(after)[name], text)
			d = after
			wantSame(t, "the desk after "+name, shownDesk(d), shownDesk(want))
		}
		wantTrue(t, "all parts are those of the other desk", impl.SameDesk(d, from))
	}
}

func TestPromise9TextsAreReadBackToTheLastBit(t *testing.T) {
	for _, d := range manyDesks(t) {
		for i := range d.Sieve.Bits {
			s := cloned(d).Sieve
			s.Bits[i] = !s.Bits[i]
			text, one := impl.SieveText(s)
			back, two := impl.ReadSieve(text)
			wantTrue(t, "a sieve with another bit is read back", one && two && impl.SameSieve(back, s) && !impl.SameSieve(back, d.Sieve))
		}
		for i := range d.Zeros.Cells {
			z := cloned(d).Zeros
			z.Cells[i] = (z.Cells[i] + 1) % 34
			text, one := impl.ZerosText(z)
			back, two := impl.ReadZeros(text)
			wantTrue(t, "zeros with another cell are read back", one && two && back.Salt == z.Salt && slices.Equal(back.Cells, z.Cells))
		}
		text, one := impl.WindowText(d.Window)
		back, two := impl.ReadWindow(text)
		wantTrue(t, "a window is read back", one && two && impl.SameWindow(back, d.Window))
	}
}

func TestPromise9ScriptsAreLinesOneAfterAnother(t *testing.T) {
	for turn := range int64(6) {
		d, outputs, refusals, others := freshDesk(), "", int64(0), int64(0)
		lines := seriesLines(turn, 77, 600)
		for i, line := range lines {
			after, output, ok := impl.DeskCommand(d, line)
			wantTrue(t, "DeskCommand", ok)
			d, outputs = after, outputs+output+"\n"
			if output == "no" || output == "what" {
				refusals++
			} else {
				others++
			}
			if i%97 != 0 {
				continue
			}
			end, told, ok := impl.RunDesk(freshDesk(), scriptOf(lines[:i+1]))
			wantTrue(t, "RunDesk", ok && told == outputs && impl.SameDesk(end, d))
			// A script in two parts is the whole script.
			end, first, _ := impl.RunDesk(freshDesk(), scriptOf(lines[:i/2]))
			end, second, _ := impl.RunDesk(end, scriptOf(lines[i/2:i+1]))
			wantTrue(t, "RunDesk in two parts", first+second == outputs && impl.SameDesk(end, d))
			if len(outputs) <= impl.MaxScript {
				wantShown(t, "CountOutputs", shownCounts(outputs), refusals, others, true)
			}
		}
	}
}

func TestPromise9LinesThatAreRefusedCanBeLeftOut(t *testing.T) {
	for turn := range int64(6) {
		lines := seriesLines(turn, 77, 600)
		whole, outputs, _ := impl.RunDesk(freshDesk(), scriptOf(lines))
		told := strings.Split(outputs, "\n")
		changing := []string{}
		for i, line := range lines {
			if told[i] == "ok" {
				changing = append(changing, line)
			}
		}
		wantTrue(t, "some lines change nothing", len(changing) > 100 && len(changing) < 500)
		end, outputs, ok := impl.RunDesk(freshDesk(), scriptOf(changing))
		wantTrue(t, "RunDesk of lines that change something", ok && impl.SameDesk(end, whole) && outputs == strings.Repeat("ok\n", len(changing)))
	}
}

func TestPromise9JournalsAreRecoveredAsFarAsTheyAreIntact(t *testing.T) {
	for turn := range int64(6) {
		lines := seriesLines(turn, 1000003, 120)
		text, ok := impl.JournalOf(lines)
		wantTrue(t, "JournalOf", ok && text == journal(lines...))
		wantRecovered(t, "a whole journal", text, lines...)
		for at := range len(text) {
			whole := lines[:wholeBefore(text, at)]
			b := []byte(text)
			b[at] ^= byte(1 + at*37%255)
			wantRecovered(t, "a journal with a byte changed", string(b), whole...)
			wantRecovered(t, "a journal that is cut", text[:at], whole...)
		}
	}
}

func TestPromise9JournalsOfPartsOfLinesAreBeginnings(t *testing.T) {
	lines := seriesLines(3, 50, 300)
	whole, _ := impl.JournalOf(lines)
	for n := range len(lines) + 1 {
		part, ok := impl.JournalOf(lines[:n])
		wantTrue(t, "JournalOf the first lines", ok && strings.HasPrefix(whole, part) && strings.Count(part, "\n") == n)
	}
}

func TestPromise9JournalsAreCarriedOutAsScriptsAre(t *testing.T) {
	for turn := range int64(6) {
		lines := seriesLines(turn, 77, 300)
		text := journal(lines...)
		for cut := 0; cut <= len(text); cut += 1 + len(text)/41 {
			count := wholeBefore(text, cut)
			want, _, _ := impl.RunDesk(freshDesk(), scriptOf(lines[:count]))
			end, carried, ok := impl.RunJournal(freshDesk(), text[:cut])
			wantTrue(t, fmt.Sprintf("RunJournal of %d lines", count), ok && carried == int64(count) && impl.SameDesk(end, want) && shownDesk(end) == shownDesk(want))
		}
	}
}
