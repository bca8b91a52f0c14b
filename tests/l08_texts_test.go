package tests

import (
	"math"
	"regexp"
	"strings"
	"testing"

	"loop.example/g01347/impl"
)

// textRow is the text of something.
type textRow[T any] struct {
	text  string
	value T
}

// wantTexts checks that texts are told, and read back.
func wantTexts[T any](t *testing.T, rows []textRow[T], textOf func(value T) (string, bool), read func(text string) (T, bool)) {
	t.Helper()
	for _, row := range rows {
		wantText(t, "the text", row.text)(textOf(row.value))
		wantShown(t, "what is read of "+row.text, wrapped(read(row.text)), row.value, true)
	}
}

// wantUnread checks that texts are texts of nothing.
func wantUnread[T any](t *testing.T, texts []string, read func(text string) (T, bool)) {
	t.Helper()
	var none T
	for _, text := range texts {
		if len(text) > 100 {
			wantShown(t, "what is read of "+text[:100]+"...", wrapped(read(text)), none, false)
			continue
		}
		wantShown(t, "what is read of "+text, wrapped(read(text)), none, false)
	}
}

// nearlyTexts are texts with a byte more, less, or another one than a text, and it itself.
func nearlyTexts(text string) []string {
	list := []string{text, text + text, text + ";" + text, strings.ToUpper(text) + "\n"}
	for i := range len(text) + 1 {
		for _, other := range []string{"", ";", ",", "0", "1", "2", "9", "-", "+", "none", " ", "x", "\n", "\x00", "\xff", "é"} {
			list = append(list, text[:i]+other+text[i:])
			if i < len(text) {
				list = append(list, text[:i]+other+text[i+1:])
			}
		}
	}
	return list
}

// wantReadAs checks that just those of the texts near to some are read that are as told, and that they are read back.
func wantReadAs[T any](t *testing.T, pattern string, texts []string, textOf func(value T) (string, bool), read func(text string) (T, bool)) {
	t.Helper()
	right, count := regexp.MustCompile("^("+pattern+")$"), 0
	for _, text := range texts {
		for _, near := range nearlyTexts(text) {
			value, ok := read(near)
			if ok != right.MatchString(near) {
				t.Errorf("%q is read: %v", near, ok)
			}
			if ok {
				count++
				wantText(t, "what was read", near)(textOf(value))
			}
		}
	}
	wantTrue(t, "some are read", count > 5)
}

func TestTextsOfSieves(t *testing.T) {
	rows := []textRow[impl.Sieve]{
		{"1,0;0", sieve(1, 0, "0")},
		{"1,0;1", sieve(1, 0, "1")},
		{"8,4294967295;01", sieve(8, greatestKey, "01")},
		{"2,7;0100110010", sieve(2, 7, "0100110010")},
		{"3,10;" + strings.Repeat("1", 511), partSieve(3, 10, 511, 511)},
		{"8,4294967295;" + strings.Repeat("1", 77) + strings.Repeat("0", 435), partSieve(8, greatestKey, 512, 77)},
	}
	wantTexts(t, rows, impl.SieveText, impl.ReadSieve)
	for what, s := range invalidSieves() {
		wantShown(t, "SieveText with "+what, wrapped(impl.SieveText(s)), "", false)
		wantUnread(t, []string{sieveTextOf(s)}, impl.ReadSieve)
	}
}

func TestTextsOfNoSieves(t *testing.T) {
	wantUnread(t, awkwardTexts(), impl.ReadSieve)
	wantUnread(t, []string{
		";", ";;", "1,0", "1,0;", ";1", "none;1", "1;1", "0;1", "1,0,0;1", "1,0,;1", ",1,0;1", "1,,0;1", "1,0;1;", "1,0;1;1", ";1,0;1", "1,0;;1", "1;0;1", "1,0,1", "1,0 1",
		"1,0;2", "1,0;a", "1,0;01x", "1,0;x01", "1,0;0,1", "1,0;none", "1,0;0 1", "1,0; 1", "1,0;1 ", " 1,0;1", "1, 0;1", "1,0;1\n", "1,0;\x01", "1,0;\x00", "1,0;\xff", "1,0;é", "1,0;/", "1,0;:", "1,0;O", "1,0;l", "1,0;１",
		"01,0;1", "+1,0;1", "1,-0;1", "1,00;1", "1,+7;1", "1,07;1", "1.0,0;1", "0,0;1", "9,0;1", "-1,0;1", "1,-1;1", "1,4294967296;1", "1,1000000000000000;1", "1,1000000000000001;1", "1,9223372036854775808;1", "9223372036854775808,1;1", "18446744073709551617,0;1",
		"1,0;" + strings.Repeat("0", 513), "1,0;" + strings.Repeat("1", 20000), strings.Repeat("1,", 100) + "0;1", strings.Repeat(";", 20000),
	}, impl.ReadSieve)
	wantReadAs(t, `[1-8],(0|[1-9][0-9]{0,8});[01]{1,512}`, []string{"2,7;011", "8,100;1", "1,0;00000"}, impl.SieveText, impl.ReadSieve)
}

// manyZeros are n zeros, with a comma between them.
func manyZeros(n int) string {
	return strings.Repeat("0,", n-1) + "0"
}

func TestTextsOfZeros(t *testing.T) {
	rows := []textRow[impl.Zeros]{
		{"0;0,0,0,0,0,0,0,0,0,0,0,0,0,0,0,0", zeros(0, make([]int64, 16)...)},
		{"9;3,0,0,5,1,0,0,0,2,0,0,0,0,0,0,33", zeros(9, 3, 0, 0, 5, 1, 0, 0, 0, 2, 0, 0, 0, 0, 0, 0, 33)},
		{"4294967295;" + strings.Repeat("33,", 31) + "33", zeros(greatestKey, repeated(int64(33), 32)...)},
		{"4294967295;33," + manyZeros(63), zeros(greatestKey, append([]int64{33}, make([]int64, 63)...)...)},
	}
	wantTexts(t, rows, impl.ZerosText, impl.ReadZeros)
	for what, z := range invalidZeros() {
		wantShown(t, "ZerosText with "+what, wrapped(impl.ZerosText(z)), "", false)
		wantUnread(t, []string{zerosTextOf(z)}, impl.ReadZeros)
	}
	for _, n := range []int{128, 256} {
		wantShown(t, "ZerosText of more than ListText takes", wrapped(impl.ZerosText(zeros(0, make([]int64, n)...))), "", false)
		wantUnread(t, []string{"0;" + manyZeros(n)}, impl.ReadZeros)
	}
}

func TestTextsOfNoZeros(t *testing.T) {
	wantUnread(t, awkwardTexts(), impl.ReadZeros)
	few := manyZeros(16)
	wantUnread(t, []string{
		";", few, ";" + few, "none;" + few, "0;", "0;none", "0", "0,0;" + few, "0;" + few + ";", ";0;" + few, "0;;" + few, "0;" + few + ";0", "0;" + few + ",", "0;," + few, "0," + few, "0;" + few + ",none", "0 ;" + few, "0; " + few, " 0;" + few, "0;" + few + " ", "0;" + few + "\n",
		"-1;" + few, "-0;" + few, "+0;" + few, "00;" + few, "4294967296;" + few, "1000000000000001;" + few, "9223372036854775808;" + few, "a;" + few,
		"0;" + few[:len(few)-1] + "a", "0;" + few[:len(few)-1] + "34", "0;-1" + few[1:], "0;00" + few[1:], "0;+0" + few[1:], "0;-0" + few[1:], "0;34" + few[1:], "0;9223372036854775808" + few[1:],
		"0;0", "0;" + manyZeros(8), "0;" + manyZeros(15), "0;" + manyZeros(17), "0;" + manyZeros(48), "0;" + manyZeros(63), "0;" + manyZeros(65), "0;" + manyZeros(5000), "0;" + strings.Repeat(",", 20000), strings.Repeat(";", 20000),
	}, impl.ReadZeros)
	cell := "(0|[1-9]|[12][0-9]|3[0-3])"
	wantReadAs(t, "(0|[1-9][0-9]{0,8});("+cell+",){15}"+cell, []string{"7;" + few, "0;33,32,31,30,29,10,9,8,7,6,5,4,3,2,1,0", "123;" + few}, impl.ZerosText, impl.ReadZeros)
}

func TestTextsOfWindows(t *testing.T) {
	rows := []textRow[impl.Window]{
		{"1,1;none;none", window(1, 1, nil, nil)},
		{"1000000,16;none;none", window(impl.MaxTime, 16, []int64{}, []int64{})},
		{"10,1;2,3;2,1", window(10, 1, []int64{2, 3}, []int64{2, 1})},
		{"5,2;1;4", window(5, 2, []int64{1}, []int64{4})},
		{"1000000,1;0,1000000;1048576,1048576", window(impl.MaxTime, 1, []int64{0, impl.MaxTime}, []int64{1 << 20, 1 << 20})},
		{"1000,16;" + listOf(upTo(64)) + ";" + listOf(fallingSizes(17, 17, 17, 13)), fallenWindow(16, 17, 17, 17, 13)},
	}
	wantTexts(t, rows, impl.WindowText, impl.ReadWindow)
	for what, w := range invalidWindows() {
		wantShown(t, "WindowText with "+what, wrapped(impl.WindowText(w)), "", false)
		wantUnread(t, []string{windowTextOf(w)}, impl.ReadWindow)
	}
	for _, w := range []impl.Window{fallenWindow(16, 14, 17, 17, 17), fallenWindow(16, 9, 17, 17, 17, 17, 17, 17, 17)} {
		wantShown(t, "WindowText of more than ListText takes", wrapped(impl.WindowText(w)), "", false)
		wantUnread(t, []string{windowTextOf(w)}, impl.ReadWindow)
	}
}

func TestTextsOfNoWindows(t *testing.T) {
	wantUnread(t, awkwardTexts(), impl.ReadWindow)
	wantUnread(t, []string{
		";", ";;", ";;;", "10,1", "10,1;2,3", "10,1;;", "10,1;none", "10,1;none;", "10,1;;none", "none;none;none", "10;none;none", "10,1,1;none;none", "10,1,;none;none", ",10,1;none;none", "10,1;none;none;", ";10,1;none;none", "10,1;none;none;none", "10,1;;none;none", "10;1;none;none", "10,1;none,none", "10,1,none;none", "10,1;None;none", "10,1;none;None",
		"10,1;1;none", "10,1;none;1", "10,1;1,2;1", "10,1;1;1,1", "10,1;1,2,;1,1", "10,1;1,2;1,1,", "10,1;a;1", "10,1;1;a", "a,1;1;1", "10,a;1;1", "10,1;01;1", "10,1;1;01", "010,1;1;1", "10,01;1;1", "10,1;-0;1", "10,1;+1;1", "10,1;1;+1", "+10,1;1;1", "10,1;1; 1", "10,1; 1;1", " 10,1;1;1", "10,1;1;1 ", "10,1;1;1\n", "10, 1;1;1",
		"0,1;1;1", "1000001,1;1;1", "-10,1;1;1", "10,0;1;1", "10,17;1;1", "10,1;-1;1", "10,1;1000001;1", "10,1;2,1;1,1", "10,1;1,2;1,2", "10,1;1;0", "10,1;1;3", "10,1;1;-1", "10,1;1;2097152", "10,1;1,2,3;1,1,1", "10,1;1,2,3,4;8,8,8,1", "5,1;2,1;1,1", "5,1;1;3",
		"9223372036854775808,1;1;1", "10,9223372036854775808;1;1", "10,1;9223372036854775808;1", "10,1;1;9223372036854775808", "10,1;1;18446744073709551617", strings.Repeat(";", 20000), "10,1;" + strings.Repeat("1,", 5000) + "1;1",
	}, impl.ReadWindow)
	wantReadAs(t, "[1-9][0-9]{0,5},([1-9]|1[0-6]);((0|[1-9][0-9]{0,5});[124]|none;none)", []string{"10,1;5;1", "1,2;none;none", "30,14;0;2"}, impl.WindowText, impl.ReadWindow)
}

func TestTextsOfWhatListTextDoesNotTake(t *testing.T) {
	for _, n := range []int64{impl.MaxValue + 1, -impl.MaxValue - 1, math.MaxInt64, math.MinInt64} {
		wantShown(t, "SieveText with rounds", wrapped(impl.SieveText(sieve(n, 7, "01"))), "", false)
		wantShown(t, "SieveText with a salt", wrapped(impl.SieveText(sieve(2, n, "01"))), "", false)
		wantShown(t, "ZerosText with a salt", wrapped(impl.ZerosText(zeros(n, make([]int64, 16)...))), "", false)
		wantShown(t, "ZerosText with a cell", wrapped(impl.ZerosText(zeros(7, append(make([]int64, 15), n)...))), "", false)
		wantShown(t, "WindowText with a long", wrapped(impl.WindowText(window(n, 1, nil, nil))), "", false)
		wantShown(t, "WindowText with parts", wrapped(impl.WindowText(window(1, n, nil, nil))), "", false)
		wantShown(t, "WindowText with a time", wrapped(impl.WindowText(window(1, 1, []int64{n}, []int64{1}))), "", false)
		wantShown(t, "WindowText with a size", wrapped(impl.WindowText(window(1, 1, []int64{1}, []int64{n}))), "", false)
	}
}
