package tests

import (
	"fmt"
	"slices"
	"strings"
	"testing"

	"loop.example/g01347/impl"
)

// carried tells the output of a line at a desk, and the desk after it.
func carried(d impl.Desk, line string) string {
	after, output, ok := impl.DeskCommand(d, line)
	return fmt.Sprintf("%q %v %s", output, ok, shownDesk(after))
}

// wantCarried checks the output of a line at a desk, and the desk after it.
func wantCarried(t *testing.T, d impl.Desk, line, output string, after impl.Desk) {
	t.Helper()
	wantSame(t, fmt.Sprintf("the line %q", line), carried(d, line), fmt.Sprintf("%q true %s", output, shownDesk(after)))
}

// afterParts is what is shown of someDesk with other parts, which are told by their texts.
func afterParts(sieve, zeros, window, keys string) string {
	parts := []string{"sieve 2,7;0100110010", "zeros 9;3,0,0,5,1,0,0,0,2,0,0,0,0,0,0,1", "window 10,1;2,3;2,1", "keys 5,1,5,1000000"}
	for i, text := range []string{sieve, zeros, window, keys} {
		if text != "" {
			parts[i] = strings.Fields(parts[i])[0] + " " + text
		}
	}
	return strings.Join(parts, " | ")
}

func TestLines(t *testing.T) {
	rows := []struct{ line, output, sieve, zeros, window, keys string }{
		{line: "sieve", output: "2,7;0100110010"},
		{line: "zeros", output: "9;3,0,0,5,1,0,0,0,2,0,0,0,0,0,0,1"},
		{line: "window", output: "10,1;2,3;2,1"},
		{line: "keys", output: "5,1,5,1000000"},
		{line: "count", output: "40bfd7d3"},
		{line: "full", output: "3ecccccd"},
		{line: "sieve 1,0;1", output: "ok", sieve: "1,0;1"},
		{line: "sieve 8,4294967295;0000000000", output: "ok", sieve: "8,4294967295;0000000000"},
		{line: "sieve 2,7;0100110110", output: "ok", sieve: "2,7;0100110110"},
		{line: "zeros 4294967295;33,33,33,33,33,33,33,33,33,33,33,33,33,33,33,0", output: "ok", zeros: "4294967295;33,33,33,33,33,33,33,33,33,33,33,33,33,33,33,0"},
		{line: "zeros 7;0,0,0,0,0,0,0,0,0,0,0,0,0,0,0,0,0,0,0,0,0,0,0,0,0,0,0,0,0,0,0,1", output: "ok", zeros: "7;0,0,0,0,0,0,0,0,0,0,0,0,0,0,0,0,0,0,0,0,0,0,0,0,0,0,0,0,0,0,0,1"},
		{line: "window 1,16;none;none", output: "ok", window: "1,16;none;none"},
		{line: "window 1000000,16;0,1000000;1048576,1", output: "ok", window: "1000000,16;0,1000000;1048576,1"},
		{line: "keys 0", output: "ok", keys: "0"},
		{line: "keys 4294967295,0,0", output: "ok", keys: "4294967295,0,0"},
		{line: "put 0", output: "ok", sieve: "2,7;0100110111", zeros: "9;3,0,0,5,1,0,0,0,2,0,0,2,0,0,0,1"},
		{line: "put 5", output: "ok", sieve: "2,7;0100111011", zeros: "9;3,0,0,5,1,0,0,0,2,3,0,0,0,0,0,1"},
		{line: "put 3", output: "ok", sieve: "2,7;0101110011"},
		{line: "put 10", output: "ok", zeros: "9;3,0,0,5,1,0,0,0,2,0,0,0,2,0,0,1"},
		{line: "put 90", output: "ok"},
		{line: "put 77", output: "ok", sieve: "2,7;0110110010", zeros: "9;3,1,0,5,1,0,0,0,2,0,0,0,0,0,0,1"},
		{line: "put 4294967295", output: "ok", sieve: "2,7;0100110111", zeros: "9;3,0,0,5,1,0,0,0,2,0,0,0,0,0,1,1"},
		{line: "in 0", output: "never"},
		{line: "in 5", output: "never"},
		{line: "in 3", output: "never"},
		{line: "in 10", output: "yes"},
		{line: "in 90", output: "yes"},
		{line: "in 77", output: "never"},
		{line: "in 4294967295", output: "never"},
		{line: "true 3", output: "ok", window: "10,1;2,3,3;2,1,1"},
		{line: "true 4", output: "ok", window: "10,1;2,3,4;2,1,1"},
		{line: "true 12", output: "ok", window: "10,1;3,12;1,1"},
		{line: "true 13", output: "ok", window: "10,1;13;1"},
		{line: "true 1000000", output: "ok", window: "10,1;1000000;1"},
		{line: "false 3", output: "ok"},
		{line: "false 11", output: "ok"},
		{line: "false 12", output: "ok", window: "10,1;3;1"},
		{line: "false 13", output: "ok", window: "10,1;none;none"},
		{line: "false 1000000", output: "ok", window: "10,1;none;none"},
		{line: "now 3", output: "2"},
		{line: "now 11", output: "2"},
		{line: "now 12", output: "1"},
		{line: "now 13", output: "0"},
		{line: "now 1000000", output: "0"},
		{line: "bounds 3", output: "2,3"},
		{line: "bounds 12", output: "1,1"},
		{line: "bounds 13", output: "0,0"},
		{line: "bounds 1000000", output: "0,0"},
		{line: "hash 0", output: "3168421504"},
		{line: "hash 5", output: "4177934770"},
		{line: "hash 4294967295", output: "3917547297"},
		{line: "home 0", output: "3"},
		{line: "home 1", output: "0"},
		{line: "home 2", output: "1"},
		{line: "home 3", output: "0"},
		{line: "home 4294967295", output: "3"},
		{line: "jump 1", output: "0,0,0,0"},
		{line: "jump 2", output: "1,0,1,1"},
		{line: "jump 10", output: "4,6,4,5"},
		{line: "jump 1000000", output: "583071,985611,583071,594089"},
		{line: "least 1", output: "324693117"},
		{line: "least 2", output: "324693117,440314428"},
		{line: "least 3", output: "324693117,440314428,4177934770"},
		{line: "least 256", output: "324693117,440314428,4177934770"},
		{line: "sample 1", output: "1"},
		{line: "sample 2", output: "1,2"},
		{line: "sample 3", output: "0,1,2"},
		{line: "sample 128", output: "0,1,2,3"},
		{line: "distinct 1", output: "2;1"},
		{line: "distinct 2", output: "1;1,5"},
		{line: "distinct 3", output: "0;1,5,1000000"},
		{line: "distinct 128", output: "0;1,5,1000000"},
		{line: "often 1", output: "5,1,5,1000000"},
		{line: "often 2", output: "5,1,1,5"},
		{line: "often 3", output: "5,1,5,1"},
		{line: "often 128", output: "5,1,5,5"},
	}
	for _, row := range rows {
		want := fmt.Sprintf("%q true %s", row.output, afterParts(row.sieve, row.zeros, row.window, row.keys))
		wantSame(t, fmt.Sprintf("the line %q", row.line), carried(someDesk(), row.line), want)
	}
}

// checkNumber is the check number of a text, reckoned without the program.
func checkNumber(start int64, text string) int64 {
	for i := range len(text) {
		start = (887*start + int64(text[i]) + 173) % 65003
	}
	return start
}

// short tells long texts by their beginning and their check number.
func short(text string) string {
	if len(text) < 60 {
		return text
	}
	return fmt.Sprintf("%s... %d", text[:20], checkNumber(0, text))
}

func TestLinesAtAFullDesk(t *testing.T) {
	rows := []struct {
		line, output string
		after        int64
	}{
		{"sieve", "8,4294967295;1001001... 60150", 48003},
		{"zeros", "4294967295;0,7,14,21... 28192", 48003},
		{"window", "1000,16;0,1,2,3,4,5,... 36752", 48003},
		{"keys", "0,1000003,4000012,90... 57765", 48003},
		{"count", "44364f1d", 48003},
		{"full", "3eab0000", 48003},
		{"put 5", "ok", 28128},
		{"put 4294967295", "ok", 14512},
		{"put 123456789", "ok", 4526},
		{"in 5", "never", 48003},
		{"in 4294967295", "never", 48003},
		{"in 3", "never", 48003},
		{"true 63", "no", 48003},
		{"true 100", "no", 48003},
		{"true 999", "no", 48003},
		{"true 1000", "ok", 21085},
		{"true 1001", "ok", 531},
		{"true 1063", "ok", 51991},
		{"false 63", "ok", 48003},
		{"false 1000", "ok", 53976},
		{"false 1040", "ok", 20988},
		{"now 63", "247", 48003},
		{"now 1000", "239", 48003},
		{"now 1020", "97", 48003},
		{"bounds 63", "244,251", 48003},
		{"bounds 1000", "236,243", 48003},
		{"bounds 1050", "13,13", 48003},
		{"hash 5", "1628834995", 48003},
		{"hash 4294967295", "3839455607", 48003},
		{"home 5", "37", 48003},
		{"home 4294967295", "32", 48003},
		{"home 77", "40", 48003},
		{"jump 1", "0,0,0,0,0,0,0,0,0,0,... 24941", 48003},
		{"jump 1000", "0,111,17,912,816,697... 34595", 48003},
		{"jump 1000000", "0,579104,670559,7733... 54932", 48003},
		{"least 1", "7125454", 48003},
		{"least 63", "7125454,106552863,12... 36123", 48003},
		{"least 64", "7125454,106552863,12... 57391", 48003},
		{"least 256", "7125454,106552863,12... 57391", 48003},
		{"sample 1", "25", 48003},
		{"sample 5", "10,21,25,35,38", 48003},
		{"sample 63", "0,1,2,3,4,5,6,7,8,9,... 30048", 48003},
		{"sample 64", "0,1,2,3,4,5,6,7,8,9,... 61445", 48003},
		{"sample 128", "0,1,2,3,4,5,6,7,8,9,... 61445", 48003},
		{"distinct 1", "4;1296003888", 48003},
		{"distinct 5", "3;1024003072,1296003888", 48003},
		{"distinct 63", "1;1000003,4000012,90... 8661", 48003},
		{"distinct 64", "0;0,1000003,4000012,... 9637", 48003},
		{"distinct 128", "0;0,1000003,4000012,... 9637", 48003},
		{"often 1", "no", 48003},
		{"often 128", "no", 48003},
	}
	for _, row := range rows {
		after, output, ok := impl.DeskCommand(fullDesk(), row.line)
		got := shown(short(output), ok, checkNumber(0, shownDesk(after)))
		wantShown(t, "the line "+row.line, got, row.output, true, row.after)
	}
}

// noNumbers are words that are no numbers in decimal.
func noNumbers() []string {
	return []string{"", "x", "none", "N", "00", "01", "-01", "007", "+0", "+5", "-0", "-", "--5", "5-", "5.0", "5e0", "0x5", "5_0", "5,5", "5,", ";", "５", "é", "\xff", "\x00", "5\x00", "5\t", "\t5", "5\n", "\n", "1000000000000001", "-1000000000000001", "9223372036854775807", "9223372036854775808", "-9223372036854775808", "-9223372036854775809", "18446744073709551616", "18446744073709551621", strings.Repeat("9", 400), strings.Repeat("0", 400) + "5"}
}

// ofNumbers are the names of lines with a number.
func ofNumbers() []string {
	return []string{"put", "in", "true", "false", "now", "bounds", "hash", "home", "jump", "least", "sample", "distinct", "often"}
}

// ofTexts are the names of lines with a text.
func ofTexts() []string {
	return []string{"sieve", "zeros", "window", "keys"}
}

// refusedNumbers are numbers that no line with a name takes at someDesk.
func refusedNumbers() map[string][]string {
	keys := []string{"-1", "4294967296", "1000000000000000", "-1000000000000000"}
	times := []string{"-1", "0", "1", "2", "1000001", "4294967295", "1000000000000000", "-1000000000000000"}
	rooms := []string{"-1", "0", "129", "256", "257", "1000000000000000", "-1000000000000000"}
	return map[string][]string{
		"put": keys, "in": keys, "hash": keys, "home": keys,
		"true": times, "false": times, "now": times, "bounds": times,
		"jump":  {"-1", "0", "1000001", "1000000000000000", "-1000000000000000"},
		"least": {"-1", "0", "257", "1000000000000000", "-1000000000000000"}, "sample": rooms, "distinct": rooms, "often": rooms,
	}
}

// refusedTexts are texts that no line with a name takes.
func refusedTexts() map[string][]string {
	bits := strings.Repeat("0", 513)
	return map[string][]string{
		"sieve":  {"1,0;", "1,0", "1;1", "1,0,0;1", "1,0;2", "1,0;1;", ";1,0;1", "0,0;1", "9,0;1", "1,-1;1", "1,4294967296;1", "01,0;1", "1,+0;1", "9223372036854775808,0;1", "1,0;" + bits, "7;" + manyZeros(16), "10,1;none;none", "1,2,3"},
		"zeros":  {"7;none", "7;0", "7;", "7", ";", "7;" + manyZeros(15), "7;" + manyZeros(17), "7;" + manyZeros(16) + ";", "7,7;" + manyZeros(16), "7;" + manyZeros(65), "7;" + manyZeros(128), "7;" + manyZeros(256), "-1;" + manyZeros(16), "4294967296;" + manyZeros(16), "7;34," + manyZeros(15), "7;-1," + manyZeros(15), "07;" + manyZeros(16), "1,0;1", "10,1;none;none", "1,2,3"},
		"window": {"10,1", "10,1;none", "10,1;none;none;", "10;none;none", "10,1,1;none;none", "10,1;1;none", "10,1;none;1", "10,1;1;1,1", "10,1;2,1;1,1", "10,1;1;3", "0,1;none;none", "1000001,1;none;none", "10,0;none;none", "10,17;none;none", "10,1;-1;1", "10,1;1000001;1", "10,1;1,1,1;1,1,1", "010,1;none;none", "1000,16;" + listOf(upTo(65)) + ";" + listOf(fallingSizes(14, 17, 17, 17)), "1,0;1", "1,2,3"},
		"keys":   {"none", "-1", "4294967296", "0,4294967296", "5,-1", "1000000000000000", "1,", ",1", "1,,2", "01", "+1", "-0", "1;2", "1,0;1", "9223372036854775808", listOf(upTo(65)), listOf(upTo(256)), "None"},
	}
}

// refusedLines are lines that have one of the forms, and output no at someDesk.
func refusedLines() []string {
	lines := []string{}
	for _, name := range ofNumbers() {
		for _, word := range append(noNumbers(), refusedNumbers()[name]...) {
			lines = append(lines, name+" "+word)
		}
	}
	for _, name := range ofTexts() {
		for _, word := range append(refusedTexts()[name], "", ",", ";", ";;", "x", "TEXT", "é", "\xff", "\x00", "\n", "0;1\n", strings.Repeat("9", 5000), strings.Repeat(";", 5000)) {
			lines = append(lines, name+" "+word)
		}
	}
	return lines
}

func TestLinesThatAreRefused(t *testing.T) {
	for _, line := range refusedLines() {
		wantCarried(t, someDesk(), line, "no", someDesk())
	}
	for name, words := range refusedTexts() {
		for _, d := range someDesks() {
			for _, word := range words {
				wantCarried(t, d, name+" "+word, "no", d)
			}
		}
	}
}

// otherLines are lines that have none of the forms.
func otherLines() []string {
	lines := []string{"", " ", "  ", "   ", "N", "TEXT", "no", "ok", "what", "yes", "never", "none", "0", "5", "1,2,3", "counts", "coun", "sieves", "siev", "windows", "key", "puts", "pu", "truefalse", "tru", "trues", "level", "save", "run", "true5", "in5", "count\n", "full\r", "full\x00", "\x00", "\n", "\t", "\xff", "é", "ｃount", strings.Repeat("x", 20000), strings.Repeat(" ", 20000)}
	for _, name := range append(ofNumbers(), "count", "full") {
		if name != "count" && name != "full" {
			lines = append(lines, name, name+" 5 ", name+" 5 5", name+"  5", name+"  ", name+" 5  ", " "+name+" 5", name+"\t5", name+"\n5", strings.ToUpper(name)+" 5", name+"s 5", name[1:]+" 5", name+"\x00 5", "5 "+name)
			continue
		}
		lines = append(lines, name+" ", " "+name, name+"  ", name+" 5", name+" none", name+" "+name, name+"\n", name+" \n")
	}
	for _, name := range ofTexts() {
		for _, text := range []string{"1,0;1", "7;" + manyZeros(16), "10,1;none;none", "1,2,3"} {
			lines = append(lines, name+" "+text+" ", name+"  "+text, " "+name+" "+text, name+" "+text+" 5", name+"\t"+text, name+";"+text, strings.ToUpper(name)+" "+text, name+"s "+text, text+" "+name)
		}
		lines = append(lines, " "+name, name+"  ", name+"   ", " "+name+" ", name+"\n", strings.ToUpper(name))
	}
	return lines
}

func TestLinesThatHaveNoForm(t *testing.T) {
	for _, line := range otherLines() {
		for _, d := range []impl.Desk{someDesk(), freshDesk(), leastDesk()} {
			wantCarried(t, d, line, "what", d)
		}
	}
}

// Each line of the table changes its own parts only, and lines that tell something change nothing.
func TestLinesThatChangeNothing(t *testing.T) {
	telling := []string{"sieve", "zeros", "window", "keys", "count", "full"}
	for _, name := range []string{"in", "now", "bounds", "hash", "home", "jump", "least", "sample", "distinct", "often"} {
		for _, n := range []string{"0", "1", "3", "12", "13", "64", "1000000"} {
			telling = append(telling, name+" "+n)
		}
	}
	lines := slices.Concat(telling, refusedLines(), otherLines())
	for _, d := range someDesks() {
		want := shownDesk(d)
		for _, line := range lines {
			after, output, ok := impl.DeskCommand(d, line)
			wantTrue(t, "DeskCommand", ok && impl.ValidDesk(after))
			if output != "ok" {
				wantSame(t, fmt.Sprintf("the desk after %q", line), shownDesk(after), want)
			}
		}
		for _, line := range append(telling, otherLines()...) {
			_, output, _ := impl.DeskCommand(d, line)
			wantFalse(t, line+" outputs ok", output == "ok")
		}
		end, _, ok := impl.RunDesk(d, strings.Join(telling, "\n")+"\n")
		wantTrue(t, "RunDesk of lines that change nothing", ok && impl.SameDesk(end, d) && shownDesk(end) == want)
	}
}

func TestLinesThatPutNothingNew(t *testing.T) {
	for _, line := range []string{"put 90", "false 3", "false 11", "sieve 2,7;0100110010", "zeros 9;3,0,0,5,1,0,0,0,2,0,0,0,0,0,0,1", "window 10,1;2,3;2,1", "keys 5,1,5,1000000"} {
		wantCarried(t, someDesk(), line, "ok", someDesk())
	}
}

func TestLinesAtTheGreatestNumberOfTimes(t *testing.T) {
	with := func(w impl.Window) impl.Desk { return changedDesk(func(d *impl.Desk) { d.Window = w }) }
	full, wide := fallenWindow(16, 17, 17, 17, 13), fallenWindow(16, 13, 17, 17, 17)
	for _, time := range []string{"63", "64", "999"} {
		wantCarried(t, with(full), "true "+time, "no", with(full))
		wantCarried(t, with(full), "false "+time, "ok", with(full))
	}
	wantCarried(t, with(full), "false 1000", "ok", with(window(1000, 16, upTo(64)[1:], full.Sizes[1:])))
	wantCarried(t, with(full), "true 1000", "ok", with(window(1000, 16, append(upTo(64)[1:], 1000), append(slices.Clone(full.Sizes[1:]), 1))))
	after, output, ok := impl.DeskCommand(with(wide), "true 70")
	wantTrue(t, "a bit that joins others", ok && output == "ok" && len(after.Window.Times) == 62)
	one := fallenWindow(16, 17, 17, 17, 12)
	wantCarried(t, with(one), "true 70", "ok", with(window(1000, 16, append(upTo(63), 70), append(slices.Clone(one.Sizes), 1))))
	wantCarried(t, with(fallenWindow(1, evenCounts(2, 21)...)), "true 50", "no", with(fallenWindow(1, evenCounts(2, 21)...)))
}

func TestLinesWithKeys(t *testing.T) {
	with := func(keys ...int64) impl.Desk { return changedDesk(func(d *impl.Desk) { d.Keys = keys }) }
	wantCarried(t, someDesk(), "keys "+listOf(upTo(64)), "ok", with(upTo(64)...))
	wantCarried(t, with(upTo(64)...), "keys", listOf(upTo(64)), with(upTo(64)...))
	wantCarried(t, with(1000000, 0), "often 1", "1000000,0", with(1000000, 0))
	wantCarried(t, with(1000001, 0), "often 1", "no", with(1000001, 0))
	wantCarried(t, with(0, 1000001), "often 1", "no", with(0, 1000001))
	// Two keys with all of their zeros are too many for a room of one.
	after, output, ok := impl.DeskCommand(changedDesk(func(d *impl.Desk) { d.Keys, d.Sieve.Salt = twoNone, twoNoneSalt }), "distinct 1")
	wantShown(t, "distinct of keys that fail", shown(output, ok, after.Keys), "no", true, twoNone)
}

func TestTheSaltIsThatOfTheSieve(t *testing.T) {
	d := someDesk()
	steps := []struct{ line, output string }{
		{"hash 5", "4177934770"}, {"least 2", "324693117,440314428"}, {"sample 1", "1"}, {"distinct 1", "2;1"},
		{"zeros 5;" + manyZeros(16), "ok"}, {"hash 5", "4177934770"}, {"sample 1", "1"},
		{"sieve 9,0;1", "no"}, {"hash 5", "4177934770"},
		{"sieve 1,3;1", "ok"}, {"hash 5", "2313153926"}, {"least 2", "1336610547,2164763611"}, {"sample 1", "2"}, {"distinct 1", "1;5"}, {"in 7", "yes"},
		{"zeros 7;" + manyZeros(16), "ok"}, {"hash 5", "2313153926"},
		{"sieve 8,4294967295;0110", "ok"}, {"hash 5", "1628834995"}, {"least 2", "1521837365,1628834995"}, {"sample 1", "0"}, {"distinct 1", "1;1000000"}, {"in 7", "never"},
		{"put 7", "ok"}, {"in 7", "yes"}, {"zeros", "7;0,0,0,0,0,0,0,0,0,0,0,0,1,0,0,0"}, {"sieve", "8,4294967295;1111"},
	}
	for _, step := range steps {
		after, output, ok := impl.DeskCommand(d, step.line)
		wantShown(t, step.line, shown(output, ok), step.output, true)
		d = after
	}
}

func TestLinesOfTheDocument(t *testing.T) {
	wantCarried(t, impl.NewDesk(), "in 5", "never", freshDesk())
	wantCarried(t, impl.NewDesk(), "now 9", "0", freshDesk())
	wantCarried(t, impl.NewDesk(), "distinct 3", "0;1,2,3", freshDesk())
}

func TestLinesAtInvalidDesks(t *testing.T) {
	for what, d := range invalidDesks() {
		for _, line := range []string{"sieve", "zeros", "window", "keys", "sieve 1,0;1", "zeros 7;" + manyZeros(16), "window 10,1;none;none", "keys 1,2,3", "put 5", "in 5", "count", "full", "true 200", "now 200", "hash 5", "jump 1", "", "what", "put x"} {
			after, output, ok := impl.DeskCommand(d, line)
			wantShown(t, "DeskCommand with "+what, shown(after, output, ok), impl.Desk{}, "", false)
		}
	}
}
