package tests

import (
	"encoding/binary"
	"encoding/hex"
	"slices"
	"strings"
	"testing"

	"loop.example/g01347/impl"
)

// saved are cells and tops with a name, made without the program.
func saved(name string, c impl.Cells, t impl.Tops) impl.Saved {
	return impl.Saved{Name: name, Cells: c, Tops: t}
}

// named are few cells and tops with a name.
func named(name string) impl.Saved {
	return saved(name, cells(2, 1, 7, 0, 0), oneTop(5, 2, 1))
}

// packed are the bytes of cells and tops, valid or not, made without the program.
func packed(s impl.Saved) string {
	b := append([]byte("SKT1"), byte(len(s.Name)))
	b = append(append(b, s.Name...), byte(s.Cells.Wide), byte(s.Cells.Deep))
	b = binary.LittleEndian.AppendUint32(b, uint32(s.Cells.Salt))
	for _, count := range s.Cells.Counts {
		b = binary.LittleEndian.AppendUint32(b, uint32(count))
	}
	b = append(b, byte(s.Tops.Room), byte(len(s.Tops.Keys)))
	for i, key := range s.Tops.Keys {
		for _, n := range []int64{key, s.Tops.Counts[i], s.Tops.Errors[i]} {
			b = binary.LittleEndian.AppendUint32(b, uint32(n))
		}
	}
	return checked(string(b))
}

// checked are bytes with their check number, reckoned without the program.
func checked(b string) string {
	check := 0
	for i := range len(b) {
		check = (887*check + int(b[i]) + 173) % 65003
	}
	return b + string([]byte{byte(check), byte(check >> 8)})
}

// shownBytes tells bytes by hexadecimal digits.
func shownBytes(b string, ok bool) string {
	return shown(hex.EncodeToString([]byte(b)), ok)
}

// bytesOf are bytes told by hexadecimal digits.
func bytesOf(t *testing.T, digits string) string {
	b, err := hex.DecodeString(digits)
	if err != nil {
		t.Fatal(err)
	}
	return string(b)
}

// someSaved are valid, few and many of all.
func someSaved() []impl.Saved {
	return []impl.Saved{
		named("a"),
		named("abcdefgh"),
		saved("z", evenCells(64, 6, greatestKey, greatestKey), tops(32, told(32, func(i int64) int64 { return greatestKey - i }), repeated(int64(greatestKey), 32), repeated(int64(greatestKey-1), 32))),
		saved("empty", evenCells(64, 1, 0, 0), tops(32, nil, nil, nil)),
		saved("mixed", cells(2, 6, 305419896, told(12, seriesKey)...), tops(3, []int64{9, 4}, []int64{5, greatestKey}, []int64{0, 1})),
		saved("one", cells(3, 1, 1, 0, greatestKey, 7), tops(1, nil, nil, nil)),
	}
}

// changedSaved are few cells and tops that are changed.
func changedSaved(change func(s *impl.Saved)) impl.Saved {
	s := saved("ab", cells(2, 2, 7, 1, 2, 3, 4), tops(3, []int64{9, 4}, []int64{5, 2}, []int64{0, 1}))
	change(&s)
	return s
}

// invalidSaved pass each limit by one, and far.
func invalidSaved() map[string]impl.Saved {
	list := map[string]impl.Saved{
		"the zero struct":      {},
		"no name":              named(""),
		"a name of 9 letters":  named("abcdefghi"),
		"a long name":          named(strings.Repeat("a", 300)),
		"an upper letter":      named("A"),
		"a digit":              named("a1"),
		"a blank":              named("a b"),
		"a byte before a":      named("`"),
		"a byte behind z":      named("az{"),
		"a byte of 0":          named("a\x00"),
		"another letter":       named("é"),
		"a count above":        changedSaved(func(s *impl.Saved) { s.Cells.Counts[0] = greatestKey + 1 }),
		"a last count above":   changedSaved(func(s *impl.Saved) { s.Cells.Counts[3] = greatestKey + 1 }),
		"a count below":        changedSaved(func(s *impl.Saved) { s.Cells.Counts[1] = -1 }),
		"the greatest cell":    changedSaved(func(s *impl.Saved) { s.Cells.Counts[1] = impl.MaxCell }),
		"a key's count above":  changedSaved(func(s *impl.Saved) { s.Tops.Counts[0] = greatestKey + 1 }),
		"a last count as such": changedSaved(func(s *impl.Saved) { s.Tops.Counts[1] = greatestKey + 1 }),
		"the greatest count":   changedSaved(func(s *impl.Saved) { s.Tops.Counts[1] = impl.MaxCell }),
	}
	for what, c := range invalidCells() {
		list[what+" in cells"] = saved("ab", c, oneTop(5, 2, 1))
	}
	for what, top := range invalidTops() {
		list[what+" in tops"] = saved("ab", cells(2, 1, 7, 0, 0), top)
	}
	return list
}

func TestValidSaved(t *testing.T) {
	for _, s := range someSaved() {
		wantTrue(t, "ValidSaved "+s.Name, impl.ValidSaved(s))
	}
	for what, s := range invalidSaved() {
		wantFalse(t, "ValidSaved with "+what, impl.ValidSaved(s))
	}
}

// copied shares no list with s.
func copied(s impl.Saved) impl.Saved {
	c, top := s.Cells, s.Tops
	return saved(s.Name, cells(c.Wide, c.Deep, c.Salt, slices.Clone(c.Counts)...), tops(top.Room, slices.Clone(top.Keys), slices.Clone(top.Counts), slices.Clone(top.Errors)))
}

func TestSameSaved(t *testing.T) {
	all := append(someSaved(), ordered(invalidSaved())...)
	wantTrue(t, "no lists", impl.SameSaved(nil, nil) && impl.SameSaved(nil, []impl.Saved{}))
	others := []impl.Saved{}
	for _, s := range all {
		others = append(others, copied(s))
		wantTrue(t, "equal ones", impl.SameSaved([]impl.Saved{s}, []impl.Saved{copied(s)}))
	}
	wantTrue(t, "equal lists", impl.SameSaved(all, others))
	wantFalse(t, "a list that ends earlier", impl.SameSaved(all, others[:len(all)-1]) || impl.SameSaved(all[:1], others) || impl.SameSaved(nil, others[:1]))
	slices.Reverse(others)
	wantFalse(t, "another order", impl.SameSaved(all, others))
	changes := map[string]func(s *impl.Saved){
		"name":   func(s *impl.Saved) { s.Name = "ac" },
		"no b":   func(s *impl.Saved) { s.Name = "a" },
		"wide":   func(s *impl.Saved) { s.Cells.Wide++ },
		"deep":   func(s *impl.Saved) { s.Cells.Deep++ },
		"salt":   func(s *impl.Saved) { s.Cells.Salt++ },
		"count":  func(s *impl.Saved) { s.Cells.Counts[3]++ },
		"counts": func(s *impl.Saved) { s.Cells.Counts = s.Cells.Counts[:3] },
		"room":   func(s *impl.Saved) { s.Tops.Room++ },
		"key":    func(s *impl.Saved) { s.Tops.Keys[0]++ },
		"keys":   func(s *impl.Saved) { s.Tops.Keys = nil },
		"top":    func(s *impl.Saved) { s.Tops.Counts[1]++ },
		"error":  func(s *impl.Saved) { s.Tops.Errors[1]++ },
		"errors": func(s *impl.Saved) { s.Tops.Errors = s.Tops.Errors[:1] },
	}
	for what, change := range changes {
		kept, other := []impl.Saved{named("a"), changedSaved(func(*impl.Saved) {})}, []impl.Saved{named("a"), changedSaved(change)}
		wantFalse(t, "SameSaved of another "+what, impl.SameSaved(kept, other) || impl.SameSaved(other, kept))
	}
}

func TestStoreSaved(t *testing.T) {
	rows := []struct {
		s    impl.Saved
		want string
	}{
		{saved("a", cells(2, 1, 7, 0, 0), tops(1, []int64{5}, []int64{2}, []int64{1})), "534b54310161020107000000000000000000000001010500000002000000010000009543"},
		{saved("abcdefgh", cells(3, 2, greatestKey, 0, greatestKey, 1, 256, 65536, 16777216), tops(32, nil, nil, nil)), "534b54310861626364656667680302ffffffff00000000ffffffff010000000001000000000100000000012000e2a9"},
		{saved("z", cells(2, 1, 0, greatestKey, 0), tops(2, []int64{greatestKey, 0}, []int64{greatestKey, 1}, []int64{4294967294, 0})), "534b5431017a020100000000ffffffff000000000202fffffffffffffffffeffffff000000000100000000000000add2"},
		{saved("sketch", cells(2, 2, 305419896, 1, 2, 3, 4), tops(3, []int64{9, 4}, []int64{5, 2}, []int64{0, 1})), "534b543106736b65746368020278563412010000000200000003000000040000000302090000000500000000000000040000000200000001000000b3da"},
	}
	for _, row := range rows {
		wantShown(t, "StoreSaved "+row.s.Name, shownBytes(impl.StoreSaved(row.s)), row.want, true)
		wantShown(t, "LoadSaved "+row.s.Name, wrapped(impl.LoadSaved(bytesOf(t, row.want))), row.s, true)
	}
	for _, s := range someSaved() {
		wantSame(t, "StoreSaved "+s.Name, shownBytes(impl.StoreSaved(s)), shownBytes(packed(s), true))
		wantShown(t, "LoadSaved "+s.Name, wrapped(impl.LoadSaved(packed(s))), s, true)
	}
	for what, s := range invalidSaved() {
		wantSame(t, "StoreSaved with "+what, shownBytes(impl.StoreSaved(s)), shownBytes("", false))
	}
}

// fitting are those invalid ones whose bytes tell just them.
func fitting() map[string]impl.Saved {
	list := map[string]impl.Saved{
		"a wide of 1":       saved("ab", cells(1, 1, 7, 5), oneTop(5, 2, 1)),
		"a wide of 65":      saved("ab", evenCells(65, 1, 7, 5), oneTop(5, 2, 1)),
		"a wide of 255":     saved("ab", evenCells(255, 6, 7, 5), oneTop(5, 2, 1)),
		"a deep of 255":     saved("ab", evenCells(2, 255, 7, 5), oneTop(5, 2, 1)),
		"a room of 255":     saved("ab", cells(2, 1, 7, 5, 5), tops(255, []int64{5}, []int64{2}, []int64{1})),
		"255 keys":          saved("ab", cells(2, 1, 7, 5, 5), tops(255, upTo(255), repeated(int64(2), 255), repeated(int64(1), 255))),
		"32 equal keys":     saved("ab", cells(2, 1, 7, 5, 5), tops(32, repeated(int64(5), 32), repeated(int64(2), 32), repeated(int64(1), 32))),
		"a great error":     saved("ab", cells(2, 1, 7, 5, 5), oneTop(5, greatestKey, greatestKey)),
		"a name of 255":     named(strings.Repeat("a", 255)),
		"a count of 0 last": saved("ab", cells(2, 1, 7, 5, 5), tops(2, []int64{1, 2}, []int64{1, 0}, []int64{0, 0})),
	}
	names := []string{"no name", "a name of 9 letters", "an upper letter", "a digit", "a blank", "a byte before a", "a byte behind z", "a byte of 0", "another letter", "a wide of one in cells", "a wide of 65 in cells", "no rows in cells", "seven rows in cells", "no room in tops", "a room of 33 in tops", "keys above the room in tops", "33 keys in tops", "equal keys in tops", "a count of zero in tops", "an error as a count in tops", "a last error as such in tops"}
	for _, what := range names {
		list[what] = invalidSaved()[what]
	}
	return list
}

func TestLoadSavedWithInvalidOnes(t *testing.T) {
	for what, s := range fitting() {
		wantShown(t, "LoadSaved with "+what, wrapped(impl.LoadSaved(packed(s))), impl.Saved{}, false)
	}
	for _, text := range awkwardTexts() {
		wantShown(t, "LoadSaved a text", wrapped(impl.LoadSaved(text)), impl.Saved{}, false)
		wantShown(t, "LoadSaved a text behind the mark", wrapped(impl.LoadSaved("SKT1"+text)), impl.Saved{}, false)
		wantShown(t, "LoadSaved a checked text", wrapped(impl.LoadSaved(checked(text))), impl.Saved{}, false)
	}
	body := packed(named("a"))
	body = body[:len(body)-2]
	for _, mark := range []string{"SKT0", "SKT2", "skt1", "TKS1", "SKT", "SKT11", "", "\x00\x00\x00\x00"} {
		wantShown(t, "LoadSaved with another mark", wrapped(impl.LoadSaved(checked(mark+body[4:]))), impl.Saved{}, false)
	}
	wantShown(t, "LoadSaved with the mark", wrapped(impl.LoadSaved(checked(body))), named("a"), true)
	wantShown(t, "LoadSaved without a check number", wrapped(impl.LoadSaved(body)), impl.Saved{}, false)
	for _, behind := range []string{"\x00", "a", "SKT1", packed(named("a")), strings.Repeat("\xff", 3000)} {
		wantShown(t, "LoadSaved with bytes behind", wrapped(impl.LoadSaved(packed(named("a"))+behind)), impl.Saved{}, false)
		wantShown(t, "LoadSaved with checked bytes behind", wrapped(impl.LoadSaved(checked(packed(named("a"))+behind))), impl.Saved{}, false)
		wantShown(t, "LoadSaved with bytes before the check number", wrapped(impl.LoadSaved(checked(body+behind))), impl.Saved{}, false)
		wantShown(t, "LoadSaved with bytes before", wrapped(impl.LoadSaved(behind+packed(named("a")))), impl.Saved{}, false)
	}
}

// shownRecovered tells what bytes begin with.
func shownRecovered(s string) string {
	list, n, ok := impl.RecoverAll(s)
	return shown(list, n, ok)
}

func TestFilesThatAreCut(t *testing.T) {
	for _, s := range []impl.Saved{named("a"), changedSaved(func(*impl.Saved) {}), someSaved()[4], someSaved()[2]} {
		whole := packed(s)
		for i := range len(whole) {
			wantShown(t, "LoadSaved cut", wrapped(impl.LoadSaved(whole[:i])), impl.Saved{}, false)
			wantShown(t, "RecoverAll cut", shownRecovered(whole[:i]), []impl.Saved{}, 0, true)
			wantShown(t, "RecoverAll cut behind one", shownRecovered(whole+whole[:i]), []impl.Saved{s}, len(whole), true)
		}
	}
}

func TestFilesWithAByteChanged(t *testing.T) {
	s := changedSaved(func(*impl.Saved) {})
	whole := packed(s)
	for i := range len(whole) {
		for by := 1; by < 256; by++ {
			b := []byte(whole)
			b[i] += byte(by)
			wantShown(t, "LoadSaved changed", wrapped(impl.LoadSaved(string(b))), impl.Saved{}, false)
			wantShown(t, "RecoverAll changed", shownRecovered(string(b)+whole), []impl.Saved{}, 0, true)
			wantShown(t, "RecoverAll changed behind one", shownRecovered(whole+string(b)), []impl.Saved{s}, len(whole), true)
		}
	}
}

// storedAll are the bytes of all of them, made without the program.
func storedAll(list []impl.Saved) string {
	all := ""
	for _, s := range list {
		all += packed(s)
	}
	return all
}

func TestStoreAll(t *testing.T) {
	eight := append(someSaved(), named("x"), named("x"))
	for n := range 9 {
		all := storedAll(eight[:n])
		wantSame(t, "StoreAll", shownBytes(impl.StoreAll(eight[:n])), shownBytes(all, true))
		wantShown(t, "RecoverAll", shownRecovered(all), eight[:n], len(all), true)
		for _, behind := range []string{"\x00", "SKT1", "SKT1\x01a", packed(named("z"))[:35], packed(invalidSaved()["an upper letter"]) + packed(named("z"))} {
			wantShown(t, "RecoverAll with bytes behind", shownRecovered(all+behind), eight[:n], len(all), true)
			wantShown(t, "RecoverAll with bytes before", shownRecovered(behind+all), []impl.Saved{}, 0, true)
		}
	}
	all := storedAll(eight)
	for _, more := range []impl.Saved{named("x"), named("")} {
		nine := append(slices.Clone(eight), more)
		wantSame(t, "StoreAll one more", shownBytes(impl.StoreAll(nine)), shownBytes("", false))
		wantShown(t, "RecoverAll one more", shownRecovered(storedAll(nine)), eight, len(all), true)
	}
	wantSame(t, "StoreAll of very many", shownBytes(impl.StoreAll(repeated(named("a"), 5000))), shownBytes("", false))
	wantShown(t, "RecoverAll of very many", shownRecovered(strings.Repeat(packed(named("a")), 5000)), repeated(named("a"), 8), 8*36, true)
	wantSame(t, "StoreAll of nil", shownBytes(impl.StoreAll(nil)), shownBytes("", true))
	wantShown(t, "RecoverAll of nothing", shownRecovered(""), []impl.Saved{}, 0, true)
	for what, s := range invalidSaved() {
		for _, list := range [][]impl.Saved{{s}, {s, named("a")}, {named("a"), s}, append(repeated(named("a"), 7), s)} {
			wantSame(t, "StoreAll with "+what, shownBytes(impl.StoreAll(list)), shownBytes("", false))
		}
	}
	for _, text := range awkwardTexts() {
		wantShown(t, "RecoverAll a text", shownRecovered(text), []impl.Saved{}, 0, true)
	}
	for what, s := range fitting() {
		wantShown(t, "RecoverAll with "+what, shownRecovered(packed(named("a"))+packed(s)+packed(named("a"))), []impl.Saved{named("a")}, 36, true)
	}
}
