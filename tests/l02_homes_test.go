package tests

import (
	"testing"

	"loop.example/g01347/impl"
)

func TestHomeOf(t *testing.T) {
	want := []int64{8, 52, 23, 7, 21, 36, 24, 41, 25, 6, 15, 51, 38, 42, 52, 40, 37, 27, 40, 35}
	for key, home := range want {
		wantShown(t, "HomeOf of 64 nodes", wrapped(impl.HomeOf(int64(key), upTo(64))), home, true)
	}
	want = []int64{3, 3, 4, 4, 4, 0, 3, 0}
	for key, home := range want {
		wantShown(t, "HomeOf of 5 nodes", wrapped(impl.HomeOf(int64(key), []int64{9, 4, 9, 0, greatestKey})), home, true)
	}
	wantShown(t, "the greatest key", wrapped(impl.HomeOf(greatestKey, []int64{9, 4, 9, 0, greatestKey})), 1, true)
	wantShown(t, "equal nodes", wrapped(impl.HomeOf(0, []int64{7, 7, 7})), 0, true)
	wantShown(t, "equal nodes behind another", wrapped(impl.HomeOf(0, []int64{greatestKey, 0, 0})), 1, true)
	wantShown(t, "one node", wrapped(impl.HomeOf(0, []int64{0})), 0, true)
	for _, nodes := range [][]int64{nil, {}, upTo(65), {1, -1}, {greatestKey + 1, 1}} {
		wantShown(t, "HomeOf of other nodes", wrapped(impl.HomeOf(0, nodes)), 0, false)
	}
	wantShown(t, "no key", wrapped(impl.HomeOf(-1, []int64{1})), 0, false)
	wantShown(t, "no key", wrapped(impl.HomeOf(greatestKey+1, []int64{1})), 0, false)
}

func TestRingHome(t *testing.T) {
	hash, _ := impl.HashOf(0, 0)
	rows := []struct {
		points []int64
		home   int64
	}{{[]int64{hash}, 0}, {[]int64{hash - 1}, 0}, {[]int64{hash + 1}, 0}, {[]int64{hash - 1, hash, hash + 1}, 1}, {[]int64{hash - 1, hash - 1, hash, hash, hash}, 2}, {[]int64{0, hash - 1, hash + 1, hash + 1}, 2}, {[]int64{0, 0, hash - 2, hash - 1}, 0}, {[]int64{hash + 1, hash + 2}, 0}, {[]int64{0, greatestKey}, 1}, {[]int64{0, 0}, 0}, {append(repeated(int64(0), 255), greatestKey), 255}, {repeated(hash-1, 256), 0}, {append(repeated(hash-1, 200), repeated(hash, 56)...), 200}}
	for _, row := range rows {
		wantShown(t, "RingHome", wrapped(impl.RingHome(0, 0, row.points)), row.home, true)
	}
	least, most := chosenHashes()[0], chosenHashes()[8]
	wantShown(t, "the hash 0", wrapped(impl.RingHome(least.key, least.salt, []int64{0, 0, 1})), 0, true)
	wantShown(t, "the greatest hash", wrapped(impl.RingHome(most.key, most.salt, []int64{0, greatestKey - 1, greatestKey, greatestKey})), 2, true)
	wantShown(t, "behind the greatest point", wrapped(impl.RingHome(most.key, most.salt, []int64{5, greatestKey - 1})), 0, true)
	for _, points := range [][]int64{nil, {}, {2, 1}, {1, 5, 4}, {-1, 5}, {5, greatestKey + 1}, repeated(int64(5), 257)} {
		wantShown(t, "RingHome of other points", wrapped(impl.RingHome(0, 0, points)), 0, false)
	}
	for _, n := range []int64{-1, greatestKey + 1} {
		wantShown(t, "no key", wrapped(impl.RingHome(n, 0, []int64{1})), 0, false)
		wantShown(t, "no salt", wrapped(impl.RingHome(0, n, []int64{1})), 0, false)
	}
}

func TestJumpHome(t *testing.T) {
	limits := []int64{1, 2, 3, 10, 1000, 999999, 1000000}
	rows := [][]int64{{0, 0, 0, 0, 0, 0, 0, 0}, {1, 0, 0, 0, 6, 549, 985611, 985611}, {2, 0, 0, 0, 6, 338, 152951, 152951}, {1263069903, 0, 1, 1, 6, 42, 753196, 753196}, {greatestKey, 0, 0, 2, 5, 875, 860568, 860568}, {1 << 31, 0, 0, 0, 8, 618, 743424, 743424}, {123456789, 0, 0, 0, 7, 294, 561473, 561473}}
	for _, row := range rows {
		for i, n := range limits {
			wantShown(t, "JumpHome of "+impl.Decimal(row[0]), wrapped(impl.JumpHome(row[0], n)), row[1+i], true)
		}
	}
	far, near := int64(0), int64(0)
	for key := range int64(2000) {
		one, _ := impl.JumpHome(key, 1000000)
		two, _ := impl.JumpHome(key*2147483, 77)
		far, near = far+one, near+two
	}
	wantShown(t, "sums of homes", shown(far, near), 992167111, 75639)
	for _, n := range []int64{0, -1, 1000001, 1<<63 - 1, -1 << 63} {
		wantShown(t, "JumpHome of other numbers", wrapped(impl.JumpHome(5, n)), 0, false)
	}
	wantShown(t, "no key", wrapped(impl.JumpHome(-1, 5)), 0, false)
	wantShown(t, "no key", wrapped(impl.JumpHome(greatestKey+1, 5)), 0, false)
}

func TestSwapPlace(t *testing.T) {
	rows := []struct {
		salt int64
		want []int64
	}{{0, []int64{0}}, {0, []int64{1, 0}}, {0, []int64{3, 0, 1, 2}}, {0, []int64{3, 2, 1, 0, 4}}, {9, []int64{8, 5, 0, 4, 1, 2, 9, 3, 7, 6}}, {greatestKey - 2, []int64{2, 3, 0, 1, 6, 9, 4, 5, 8, 7}}, {greatestKey, []int64{14, 15, 6, 13, 8, 9, 10, 0, 4, 5, 12, 7, 11, 1, 2, 3}}, {greatestKey - 1, []int64{1, 10, 5, 8, 6, 2, 7, 0, 13, 12, 15, 3, 11, 14, 16, 9, 4}}}
	for _, row := range rows {
		n := int64(len(row.want))
		for k, place := range row.want {
			wantShown(t, "SwapPlace below "+impl.Decimal(n), wrapped(impl.SwapPlace(int64(k), n, row.salt)), place, true)
			wantShown(t, "BackPlace below "+impl.Decimal(n), wrapped(impl.BackPlace(place, n, row.salt)), k, true)
		}
	}
	for _, row := range [][]int64{{65536, 0, 36245, 37947, 18094, 46971, 46165}, {65535, greatestKey, 44070, 11259, 31258, 6929, 49074}, {16384, 7, 6296, 4137, 11333, 12463, 122}, {16385, 7, 10518, 7644, 2335, 16027, 7403}, {1000, 5, 309, 168, 681, 706, 0}} {
		n, salt := row[0], row[1]
		for i, k := range []int64{0, 1, 2, n / 2, n - 1} {
			wantShown(t, "SwapPlace below "+impl.Decimal(n), wrapped(impl.SwapPlace(k, n, salt)), row[2+i], true)
			wantShown(t, "BackPlace below "+impl.Decimal(n), wrapped(impl.BackPlace(row[2+i], n, salt)), k, true)
		}
	}
}

func TestSwapPlaceFails(t *testing.T) {
	for _, row := range [][3]int64{{0, 0, 5}, {0, -1, 5}, {0, 65537, 5}, {0, 1<<63 - 1, 5}, {0, -1 << 63, 5}, {-1, 10, 5}, {10, 10, 5}, {1, 1, 5}, {65536, 65536, 5}, {1<<63 - 1, 10, 5}, {-1 << 63, 10, 5}, {3, 10, -1}, {3, 10, greatestKey + 1}} {
		wantShown(t, "SwapPlace", wrapped(impl.SwapPlace(row[0], row[1], row[2])), 0, false)
		wantShown(t, "BackPlace", wrapped(impl.BackPlace(row[0], row[1], row[2])), 0, false)
	}
}
