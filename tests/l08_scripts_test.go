package tests

import (
	"fmt"
	"slices"
	"strings"
	"testing"

	"loop.example/g01347/impl"
)

// ran tells the outputs of a script at a desk, and the desk after it.
func ran(d impl.Desk, script string) string {
	end, outputs, ok := impl.RunDesk(d, script)
	return fmt.Sprintf("%q %v %s", outputs, ok, shownDesk(end))
}

// wantRan checks the outputs of a script at a desk, and the desk after it.
func wantRan(t *testing.T, d impl.Desk, script, outputs string, end impl.Desk) {
	t.Helper()
	if got, want := ran(d, script), fmt.Sprintf("%q true %s", outputs, shownDesk(end)); got != want {
		t.Errorf("a script of %d bytes: got %s, want %s", len(script), short(got), short(want))
	}
}

func TestScripts(t *testing.T) {
	with := func(keys ...int64) impl.Desk { return changedDesk(func(d *impl.Desk) { d.Keys = keys }) }
	rows := []struct {
		script, outputs string
		end             impl.Desk
	}{
		{"", "", someDesk()},
		{"\n", "what\n", someDesk()},
		{"\n\n", "what\nwhat\n", someDesk()},
		{" \n", "what\n", someDesk()},
		{"keys\n", "5,1,5,1000000\n", someDesk()},
		{"keys\n\nkeys\n", "5,1,5,1000000\nwhat\n5,1,5,1000000\n", someDesk()},
		{"\nkeys\n", "what\n5,1,5,1000000\n", someDesk()},
		{"keys \n", "no\n", someDesk()},
		{"keys\r\n", "what\n", someDesk()},
		{"keys 4\nkeys\n", "ok\n4\n", with(4)},
		{"keys\nkeys 4\n", "5,1,5,1000000\nok\n", with(4)},
		{"keys 4\nkeys none\nkeys\n", "ok\nno\n4\n", with(4)},
		{"keys 4\nkeys 4,3\nkeys x\n", "ok\nok\nno\n", with(4, 3)},
		{"put 90\nput 90\nin 90\nin -90\nin 90 \n", "ok\nok\nyes\nno\nwhat\n", someDesk()},
		{"often 2\nfull\ncount\n", "5,1,1,5\n3ecccccd\n40bfd7d3\n", someDesk()},
		{"true 4\ntrue 4\nfalse 13\nnow 13\nwindow\ntrue 3\n", "ok\nok\nok\n2\n10,1;4,4;2,1\nno\n", changedDesk(func(d *impl.Desk) { d.Window = window(10, 1, []int64{4, 4}, []int64{2, 1}) })},
	}
	for _, row := range rows {
		wantRan(t, someDesk(), row.script, row.outputs, row.end)
	}
}

func TestScriptsWithoutALastNewline(t *testing.T) {
	for _, script := range []string{"keys", " ", "x", "keys\nkeys", "\nkeys", "keys\n ", "keys\n\n\x00", "keys 4\nkeys 3", "keys\r", strings.Repeat("\n", 15999) + "x"} {
		end, outputs, ok := impl.RunDesk(someDesk(), script)
		wantShown(t, "RunDesk without a last newline", shown(end, outputs, ok), impl.Desk{}, "", false)
	}
}

// longScripts are scripts of MaxScript bytes, with their outputs.
func longScripts() map[string]string {
	return map[string]string{
		strings.Repeat("\n", 16000):                       strings.Repeat("what\n", 16000),
		strings.Repeat("keys\n", 3200):                    strings.Repeat("1,2,3\n", 3200),
		strings.Repeat("put 5\n", 2665) + "keys none\n":   strings.Repeat("ok\n", 2665) + "no\n",
		strings.Repeat("x", 15999) + "\n":                 "what\n",
		"keys " + strings.Repeat("0", 15994) + "\n":       "no\n",
		strings.Repeat("hash 5\n", 2285) + "now\n" + "\n": strings.Repeat("4177934770\n", 2285) + "what\nwhat\n",
	}
}

func TestScriptsOfTheGreatestSize(t *testing.T) {
	for script, outputs := range longScripts() {
		if len(script) != impl.MaxScript {
			t.Fatalf("a script of %d bytes", len(script))
		}
		want := freshDesk()
		if strings.HasPrefix(script, "put 5") {
			want, _, _ = impl.DeskCommand(want, "put 5")
		}
		wantRan(t, freshDesk(), script, outputs, want)
		for _, more := range []string{script + "\n", "\n" + script, "x" + script, script + script} {
			end, outputs, ok := impl.RunDesk(freshDesk(), more)
			wantShown(t, "RunDesk of more than MaxScript bytes", shown(end, outputs, ok), impl.Desk{}, "", false)
		}
	}
}

// takingLine is a line that puts another part in.
func takingLine(i int64) string {
	digits := make([]byte, 20+i%40)
	for j := range digits {
		digits[j] = '0'
		if (int64(j*j)+i)%5 == 0 {
			digits[j] = '1'
		}
	}
	switch i / 50 % 4 {
	case 0:
		return fmt.Sprintf("sieve %d,%d;%s", 1+i%8, i*i, digits)
	case 1:
		return "keys " + listOf(told(int(1+i%64), func(j int64) int64 { return j * i % 1000 }))
	case 2:
		return fmt.Sprintf("zeros %d;%s", i, listOf(told(16<<(i%3), func(j int64) int64 { return j * i % 7 })))
	}
	return fmt.Sprintf("window %d,%d;none;none", i, 1+i%16)
}

// seriesLine is the line i of a series of lines.
func seriesLine(i, turn, mod int64) string {
	names := strings.Fields("put in true count put now hash sieve false bounds home jump put zeros least sample window distinct often full keys true true in what")
	name := names[(7*i+turn+i/25)%25]
	n := int64(0)
	switch name {
	case "put", "in", "hash", "home":
		n = (i*i*66123 + i*turn) % mod
	case "true", "false", "now", "bounds":
		n = i / 2
	case "jump":
		n = i*i + 1
	case "least", "sample", "distinct", "often":
		n = (3*i + turn) % 140
	default:
		return name
	}
	return fmt.Sprintf("%s %d", name, n)
}

// seriesLines are n lines of many forms.
func seriesLines(turn, mod, n int64) []string {
	lines := []string{}
	for i := range n {
		if i%50 == 49 {
			lines = append(lines, takingLine(i+turn))
			continue
		}
		lines = append(lines, seriesLine(i, turn, mod))
	}
	return lines
}

// scriptOf is the script of lines.
func scriptOf(lines []string) string {
	return strings.Join(append(slices.Clone(lines), ""), "\n")
}

func TestSeriesOfLines(t *testing.T) {
	rows := []struct{ turn, mod, n, outputs, end, refusals, size int64 }{
		{0, 4294967296, 1000, 13466, 37838, 50, 49371},
		{1, 97, 1000, 5179, 47767, 49, 29244},
		{2, 11, 1100, 40829, 23291, 59, 41722},
		{3, 1000003, 1200, 52675, 39296, 66, 44782},
		{7, 40, 1100, 43526, 9984, 60, 33467},
	}
	for _, row := range rows {
		end, outputs, ok := impl.RunDesk(freshDesk(), scriptOf(seriesLines(row.turn, row.mod, row.n)))
		refusals := 0
		for _, output := range strings.Split(outputs, "\n") {
			if output == "no" || output == "what" {
				refusals++
			}
		}
		wantShown(t, "a series", shown(checkNumber(0, outputs), checkNumber(0, shownDesk(end)), refusals, len(outputs), ok), row.outputs, row.end, row.refusals, row.size, true)
	}
}

func TestScriptsAtInvalidDesks(t *testing.T) {
	for what, d := range invalidDesks() {
		for _, script := range []string{"", "keys\n", "keys 1,2,3\n", "\n", "keys"} {
			end, outputs, ok := impl.RunDesk(d, script)
			wantShown(t, "RunDesk with "+what, shown(end, outputs, ok), impl.Desk{}, "", false)
		}
	}
}

// shownCounts tells how many outputs are no or what, and how many are others.
func shownCounts(text string) string {
	refusals, others, ok := impl.CountOutputs(text)
	return shown(refusals, others, ok)
}

func TestCountOutputs(t *testing.T) {
	rows := []struct {
		text             string
		refusals, others int64
	}{
		{"", 0, 0}, {"\n", 0, 1}, {"\n\n\n", 0, 3}, {"no\n", 1, 0}, {"what\n", 1, 0}, {"ok\n", 0, 1},
		{"no\nwhat\nno\n", 3, 0}, {"no\n\nwhat\n", 2, 1}, {"\nno\n", 1, 1}, {"no\n\n", 1, 1}, {"ok\nno\n4,4\nwhat\nnever\nyes\n", 2, 4},
		{" no\nno \n no \nwhat \n what\n", 0, 5}, {"NO\nWhat\nNo\nWHAT\n", 0, 4}, {"none\nnowhat\nwhatno\nwhats\nn\nwha\nnono\n", 0, 7},
		{"no\r\nwhat\x00\n\x00no\n\xff\n", 0, 4}, {"no what\nwhat no\n", 0, 2}, {"no\n \nwhat\n", 2, 1},
		{strings.Repeat("\n", 16000), 0, 16000}, {strings.Repeat("no\n", 5333) + "\n", 5333, 1}, {strings.Repeat("what\n", 3200), 3200, 0}, {strings.Repeat("x", 15999) + "\n", 0, 1},
	}
	for _, row := range rows {
		wantShown(t, "CountOutputs of "+short(row.text), shownCounts(row.text), row.refusals, row.others, true)
	}
	for _, text := range []string{"no", "what", "ok", " ", "x", "no\nwhat", "no\n ", "\n\nno", "no\n\x00", "no\r", strings.Repeat("\n", 16001), strings.Repeat("no\n", 5333) + "no\n", strings.Repeat("what\n", 3201), strings.Repeat("x", 16000), strings.Repeat("x", 15999) + "\n\n", strings.Repeat("no\n", 50000)} {
		wantShown(t, "CountOutputs of "+short(text), shownCounts(text), 0, 0, false)
	}
}
