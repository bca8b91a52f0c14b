package tests

import (
	"testing"

	"loop.example/g01347/impl"
)

// greatestKey is the greatest key, and the greatest salt.
const greatestKey = 1<<32 - 1

// upTo is the list 0, 1, and so on, up to n - 1.
func upTo(n int) []int64 {
	list := make([]int64, n)
	for i := range list {
		list[i] = int64(i)
	}
	return list
}

// chosen has a key and a salt, made for the document's rule run backwards, whose hash is told beside them.
type chosen struct {
	hash, key, salt int64
}

func chosenHashes() []chosen {
	return []chosen{{0, 3601115341, 1221656794}, {1, 3731721544, 3778754445}, {255, 3701302512, 535785933}, {256, 2340273739, 2174074578}, {2147483647, 2809931149, 499425047}, {2147483648, 750590733, 2518552991}, {4294967039, 1320568880, 2536004844}, {4294967040, 4186323843, 2966353944}, {4294967295, 1008429331, 3348288900}}
}

// equalHashes are two keys that have the same hash with the salt 0.
var equalHashes = []int64{21412, 140572}

func TestKeys(t *testing.T) {
	for _, k := range []int64{0, 1, 1 << 31, greatestKey} {
		wantTrue(t, "IsKey "+impl.Decimal(k), impl.IsKey(k))
		wantTrue(t, "AreKeys "+impl.Decimal(k), impl.AreKeys([]int64{0, k, 0}))
	}
	for _, k := range []int64{-1, greatestKey + 1, 1 << 40, 1<<63 - 1, -1 << 63} {
		wantFalse(t, "IsKey "+impl.Decimal(k), impl.IsKey(k))
		wantFalse(t, "AreKeys with first "+impl.Decimal(k), impl.AreKeys([]int64{k, 0}))
		wantFalse(t, "AreKeys with last "+impl.Decimal(k), impl.AreKeys([]int64{0, k}))
	}
	wantTrue(t, "AreKeys of nil", impl.AreKeys(nil))
	wantTrue(t, "AreKeys of none", impl.AreKeys([]int64{}))
	wantTrue(t, "AreKeys of equal and falling ones", impl.AreKeys([]int64{7, 7, 3}))
	wantTrue(t, "AreKeys of 256", impl.AreKeys(repeated(int64(greatestKey), 256)))
	wantFalse(t, "AreKeys of 257", impl.AreKeys(repeated(int64(0), 257)))
}

func TestMixHash(t *testing.T) {
	for _, row := range [][2]uint64{{0, 0}, {1, 6238072747940578789}, {2, 15839785061582574730}, {1 << 31, 17010196902690978975}, {1 << 32, 15573649723082471743}, {1 << 63, 2720858781877447050}, {1<<64 - 1, 13029008266876403067}, {11400714819323198485, 16294208416658607535}, {0x0123456789abcdef, 12880392674509918508}} {
		if got := impl.MixHash(row[0]); got != row[1] {
			t.Errorf("MixHash %d: got %d, want %d", row[0], got, row[1])
		}
	}
}

func TestHashOf(t *testing.T) {
	rows := []chosen{{3793791033, 0, 0}, {2433363436, 1, 0}, {3291240986, 0, 1}, {3297084168, 1, 2}, {3010476760, 2, 1}, {1940994978, greatestKey, 0}, {564117821, 0, greatestKey}, {3839455607, greatestKey, greatestKey}, {2084674606, 123456789, 987654321}, {3422979205, 1 << 31, 1 << 31}}
	for _, row := range append(rows, chosenHashes()...) {
		wantShown(t, "HashOf", wrapped(impl.HashOf(row.key, row.salt)), row.hash, true)
		sign := int64(1)
		if row.hash >= 2147483648 {
			sign = -1
		}
		wantShown(t, "SignOf", wrapped(impl.SignOf(row.key, row.salt)), sign, true)
		wantShown(t, "ShareHash", wrapped(impl.ShareHash(row.key, row.salt)), float32(row.hash/256)/16777216, true)
	}
	wantShown(t, "equal hashes", wrapped(impl.HashOf(equalHashes[0], 0)), 2803608530, true)
	wantShown(t, "equal hashes", wrapped(impl.HashOf(equalHashes[1], 0)), 2803608530, true)
	for _, n := range []int64{-1, greatestKey + 1, 1 << 62, -1 << 63} {
		for _, at := range [][2]int64{{n, 0}, {0, n}, {n, n}} {
			wantShown(t, "HashOf", wrapped(impl.HashOf(at[0], at[1])), 0, false)
			wantShown(t, "SignOf", wrapped(impl.SignOf(at[0], at[1])), 0, false)
			wantShown(t, "ShareHash", wrapped(impl.ShareHash(at[0], at[1])), float32(0), false)
			wantShown(t, "BelowHash", wrapped(impl.BelowHash(at[0], at[1], 5)), 0, false)
			wantShown(t, "BitsOfHash", wrapped(impl.BitsOfHash(at[0], at[1], 5)), []bool(nil), false)
		}
	}
}

func TestShareHashIsLessThanOne(t *testing.T) {
	got, ok := impl.ShareHash(1008429331, 3348288900)
	wantTrue(t, "ShareHash of the greatest hash", ok && got < 1)
	wantNumber(t, "ShareHash of the greatest hash", got, 0x3f7fffff)
	got, _ = impl.ShareHash(3701302512, 535785933)
	wantNumber(t, "ShareHash of the hash 255", got, plusZero)
	got, _ = impl.ShareHash(2340273739, 2174074578)
	wantNumber(t, "ShareHash of the hash 256", got, 0x33800000)
}

func TestBelowHash(t *testing.T) {
	limits := []int64{1, 2, 3, 256, 1000000, 1 << 31, 1<<32 - 1, 1 << 32}
	rows := [][]int64{{0, 0, 0, 1, 2, 226, 883310, 1896895516, 3793791032, 3793791033}, {1, 0, 0, 1, 1, 145, 566561, 1216681718, 2433363435, 2433363436}, {0, 1, 0, 1, 2, 196, 766301, 1645620493, 3291240985, 3291240986}, {greatestKey, greatestKey, 0, 1, 2, 228, 893942, 1919727803, 3839455606, 3839455607}, {5, 7, 0, 1, 2, 249, 972751, 2088967385, 4177934769, 4177934770}, {2809931149, 499425047, 0, 0, 1, 127, 499999, 1073741823, 2147483646, 2147483647}, {750590733, 2518552991, 0, 1, 1, 128, 500000, 1073741824, 2147483647, 2147483648}, {1008429331, 3348288900, 0, 1, 2, 255, 999999, 2147483647, 4294967294, 4294967295}}
	for _, row := range rows {
		for i, n := range limits {
			wantShown(t, "BelowHash below "+impl.Decimal(n), wrapped(impl.BelowHash(row[0], row[1], n)), row[2+i], true)
		}
	}
	for _, n := range []int64{0, -1, 1<<32 + 1, 1<<63 - 1, -1 << 63} {
		wantShown(t, "BelowHash below "+impl.Decimal(n), wrapped(impl.BelowHash(5, 7, n)), 0, false)
	}
}

func TestBitsOfHash(t *testing.T) {
	for _, row := range append(chosenHashes(), chosen{4177934770, 5, 7}, chosen{3793791033, 0, 0}) {
		for _, count := range []int64{0, 1, 2, 31, 32} {
			list, ok := impl.BitsOfHash(row.key, row.salt, count)
			if !ok || int64(len(list)) != count {
				t.Fatalf("BitsOfHash: got %v, %v, want %d bits", list, ok, count)
			}
			n := int64(0)
			for _, bit := range list {
				n *= 2
				if bit {
					n++
				}
			}
			if n != row.hash>>(32-count) {
				t.Errorf("BitsOfHash of the hash %d: got %v", row.hash, list)
			}
		}
	}
	for _, count := range []int64{-1, 33, 64, 1<<63 - 1, -1 << 63} {
		wantShown(t, "BitsOfHash", wrapped(impl.BitsOfHash(5, 7, count)), []bool(nil), false)
	}
}

func TestZeros(t *testing.T) {
	for _, row := range [][3]int64{{0, 32, 32}, {1, 31, 0}, {2, 30, 1}, {3, 30, 0}, {12, 28, 2}, {1 << 16, 15, 16}, {1 << 31, 0, 31}, {1<<31 - 1, 1, 0}, {3 << 30, 0, 30}, {greatestKey, 0, 0}} {
		wantShown(t, "ZerosOf "+impl.Decimal(row[0]), wrapped(impl.ZerosOf(row[0])), row[1], true)
		wantShown(t, "LowZerosOf "+impl.Decimal(row[0]), wrapped(impl.LowZerosOf(row[0])), row[2], true)
	}
	for _, word := range []int64{-1, 1 << 32, 1<<63 - 1, -1 << 63} {
		wantShown(t, "ZerosOf", wrapped(impl.ZerosOf(word)), 0, false)
		wantShown(t, "LowZerosOf", wrapped(impl.LowZerosOf(word)), 0, false)
	}
}
