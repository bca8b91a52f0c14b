package tests

import (
	"math"
	"testing"

	"loop.example/g01347/impl"
)

func wantCorrected(t *testing.T, c impl.Cells, key int64, want uint32) {
	t.Helper()
	got, ok := impl.CorrectedAt(c, key)
	wantTrue(t, "CorrectedAt", ok)
	wantNumber(t, "CorrectedAt "+impl.Decimal(key), got, want)
}

func TestCorrectedAt(t *testing.T) {
	rows := []struct {
		c    impl.Cells
		key  int64
		want uint32
	}{
		{cells(2, 1, 0, 0, impl.MaxCell), 0, 0x5368d4a5},
		{cells(2, 1, 0, impl.MaxCell, 0), 0, 0xd368d4a5},
		{cells(2, 1, 0, -impl.MaxCell, impl.MaxCell), 0, 0x53e8d4a5},
		{evenCells(64, 1, 0, impl.MaxCell), 1, plusZero},
		{evenCells(64, 6, greatestKey, -impl.MaxCell), 7, plusZero},
		{cells(3, 2, 9, 1, 2, 3, 4, 5, 6), 1, 0xbfc00000},
		{cells(2, 2, 9, -3, 7, 7, -3), 0, 0x41200000},
		{cells(2, 2, 9, -3, 7, 7, -3), 1, 0xc1200000},
		{cells(3, 4, 9, 1, 2, 3, 4, 0, 0, 1, 0, 0, 5, 5, 5), 0, 0xbf000000},
		{cells(4, 2, 5, 9, 9, 9, -3, -5, 9, 9, 9), 7, 0xc1600000},
	}
	for _, row := range rows {
		wantCorrected(t, row.c, row.key, row.want)
	}
}

// The counts are chosen so that rounding more or less often, or in another order, gives other bits.
func TestCorrectedAtRoundsEachOperation(t *testing.T) {
	wantCorrected(t, cells(6, 1, greatestKey, 833908272932, 330896259282, 952724980803, 583102394647, 783348814062, 435625368283), 7, 0x52a755b8)
	wantCorrected(t, cells(4, 1, 5, 328342116196, 180173813059, 635437498542, 473592356191), 5, 0xd1bcdbac)
	wantCorrected(t, cells(6, 1, 0, 106928034507, 588840153686, 972076433819, -119049633411, 252178786716, 245149608069), 0, 0xd1d649ca)
	wantCorrected(t, cells(4, 1, 0, 737798266751, 780042124567, 829128504456, 16502728667), 5, 0x526ae8de)
	wantCorrected(t, cells(6, 1, greatestKey, 14631432, 16445342, 5869669, 3114649, 9258522, 266088), 3, 0xcabc95d2)
	wantCorrected(t, cells(4, 1, 5, 19956436, 17180345, 4784511, 18950914), 4, 0x4ac0ce2e)
}

func TestSeriesOfCorrected(t *testing.T) {
	keys := []int64{0, 66124, 264494, 595110, greatestKey}
	rows := []struct {
		empty                impl.Cells
		mixed, more, careful []uint32
	}{
		{evenCells(2, 1, 0, 0), []uint32{0x45e7f800, 0x45e7f800, 0x45e7f800, 0x45e7f800, 0xc5e7f800}, []uint32{0x46003c00, 0x46003c00, 0x46003c00, 0x46003c00, 0xc6003c00}, []uint32{0x46003c00, 0x46003c00, 0x46003c00, 0x46003c00, 0xc6003c00}},
		{evenCells(5, 3, greatestKey-1, 0), []uint32{0xc4cc4000, 0xc472e000, 0x45aec200, 0x45bc2800, 0x44768000}, []uint32{0xc4c56000, 0xc501f000, 0x447a4000, 0x45578800, 0x45632c00}, []uint32{0xc18e0000, 0xc3b5a000, 0x43258000, 0x43258000, 0x43e22000}},
		{evenCells(7, 2, 5, 0), []uint32{0xc4bd9000, 0x43602aab, 0x447ceaab, 0x447ceaab, 0xc582eaab}, []uint32{0x43392aa0, 0xc5383556, 0xc5234800, 0xc5234800, 0xc436aaa8}, []uint32{0x44428aa8, 0xc473caa8, 0xc45ba000, 0xc45ba000, 0xc4188000}},
	}
	for _, row := range rows {
		mixed, more, careful := seriesOf(t, row.empty, true, impl.PutCells), seriesOf(t, row.empty, false, impl.PutCells), seriesOf(t, row.empty, false, impl.PutCareful)
		for i, key := range keys {
			wantCorrected(t, mixed, key, row.mixed[i])
			wantCorrected(t, more, key, row.more[i])
			wantCorrected(t, careful, key, row.careful[i])
		}
	}
}

// The medians of one to six rows take the lower one of two in the middle.
func TestMediansOfEachDeep(t *testing.T) {
	rows := []struct {
		corrected [3]uint32
		signed    [3]int64
		norm      int64
	}{
		{[3]uint32{0xc524e666, 0xc4df4ccc, 0xc5110666}, [3]int64{-281, -339, -1052}, 5228263},
		{[3]uint32{0xc524e666, 0xc4df4ccc, 0xc5110666}, [3]int64{-5152, -339, -1052}, 5228263},
		{[3]uint32{0xc3863330, 0xc4852668, 0xc4eccccc}, [3]int64{-281, 128, -306}, 6157047},
		{[3]uint32{0xc44e4cd0, 0xc4852668, 0xc4eccccc}, [3]int64{-880, 128, -306}, 6157047},
		{[3]uint32{0xc3863330, 0xc4852668, 0xc2d73340}, [3]int64{-281, 635, 146}, 9222311},
		{[3]uint32{0xc3863330, 0xc4852668, 0xc2d73340}, [3]int64{-880, 128, 146}, 9222311},
	}
	for i, row := range rows {
		c := evenCells(6, int64(i+1), 11, 0)
		signed := c
		for k := range int64(60) {
			c, _ = impl.PutCells(c, k*k*66123+k, k*7919%1001)
			signed, _ = impl.PutSigned(signed, k*k*66123+k, k*7919%2001-1000)
		}
		for n, key := range []int64{0, 66124, greatestKey} {
			wantCorrected(t, c, key, row.corrected[n])
			wantShown(t, "SignedAt", wrapped(impl.SignedAt(signed, key)), row.signed[n], true)
		}
		wantShown(t, "SignedNorm", wrapped(impl.SignedNorm(signed)), row.norm, true)
	}
}

func TestPutSigned(t *testing.T) {
	rows := []struct {
		wide, deep, salt, key, by int64
		want                      []int64
	}{{4, 2, 5, 7, 2, []int64{0, 0, 0, 2, 2, 0, 0, 0}}, {2, 1, 0, 0, -7, []int64{0, 7}}, {3, 6, greatestKey - 2, greatestKey, 1000000, []int64{0, 1000000, 0, 1000000, 0, 0, 0, 0, -1000000, 0, 1000000, 0, 0, 0, 1000000, -1000000, 0, 0}}, {2, 6, greatestKey - 1002, 123456789, 3, []int64{0, 3, 0, 3, -3, 0, 3, 0, 0, 3, 3, 0}}, {5, 3, greatestKey - 1000, 1 << 31, -1000000, []int64{0, 0, 0, 0, 1000000, 0, 0, -1000000, 0, 0, -1000000, 0, 0, 0, 0}}, {3, 2, greatestKey - 998, 9, 4, []int64{4, 0, 0, 0, -4, 0}}}
	for _, row := range rows {
		got, ok := impl.PutSigned(evenCells(row.wide, row.deep, row.salt, 0), row.key, row.by)
		wantShown(t, "PutSigned", wrapped(got, ok), cells(row.wide, row.deep, row.salt, row.want...), true)
		wantShown(t, "SignedAt", wrapped(impl.SignedAt(got, row.key)), row.by, true)
		wantShown(t, "SignedNorm", wrapped(impl.SignedNorm(got)), row.by*row.by, true)
	}
	for _, by := range []int64{1000001, -1000001, math.MaxInt64, math.MinInt64} {
		wantShown(t, "PutSigned by "+impl.Decimal(by), wrapped(impl.PutSigned(evenCells(4, 2, 5, 0), 7, by)), impl.Cells{}, false)
	}
}

func TestPutSignedAtLimits(t *testing.T) {
	high := cells(2, 1, 0, 0, impl.MaxCell-5)
	wantShown(t, "up to the limit", wrapped(impl.PutSigned(high, 0, -5)), cells(2, 1, 0, 0, impl.MaxCell), true)
	wantShown(t, "above the limit", wrapped(impl.PutSigned(high, 0, -6)), impl.Cells{}, false)
	low := cells(2, 1, 0, 0, -impl.MaxCell+5)
	wantShown(t, "down to the limit", wrapped(impl.PutSigned(low, 0, 5)), cells(2, 1, 0, 0, -impl.MaxCell), true)
	wantShown(t, "below the limit", wrapped(impl.PutSigned(low, 0, 6)), impl.Cells{}, false)
}

func TestSeriesOfSigned(t *testing.T) {
	rows := []struct {
		empty impl.Cells
		want  []int64
		at    []int64
		norm  int64
	}{
		{evenCells(2, 1, 0, 0), []int64{-1098, 1457}, []int64{-1457, 1457, -1457, -1457, -1098}, 3328453},
		{evenCells(5, 3, greatestKey-1, 0), []int64{-2261, -1308, -2311, -1375, -1328, -2998, 224, 4737, -7311, 3535, 3022, -3577, -423, 1140, 197}, []int64{-1375, 224, 1328, 2261, -2261}, 23444751},
		{evenCells(7, 2, 5, 0), []int64{-2604, 3585, -651, -3398, 2883, -3663, -4293, -2145, 653, 3225, -1276, 2358, -2440, -4410}, []int64{-2358, -2604, 2145, 2145, -3585}, 48018099},
	}
	for _, row := range rows {
		signed := seriesOf(t, row.empty, true, impl.PutSigned)
		wantShown(t, "PutSigned", shown(signed.Counts), row.want)
		for i, key := range []int64{0, 66124, 264494, 595110, greatestKey} {
			wantShown(t, "SignedAt", wrapped(impl.SignedAt(signed, key)), row.at[i], true)
		}
		wantShown(t, "SignedNorm", wrapped(impl.SignedNorm(signed)), row.norm, true)
	}
}

func TestSignedMedians(t *testing.T) {
	five := cells(3, 5, 9, 1, 2, 3, 4, 0, 0, 1, 0, 0, 5, 5, 5, 2, 2, 2)
	four := cells(3, 4, 9, five.Counts[:12]...)
	for key, want := range []int64{2, 0, -2, 0, 0, -2} {
		wantShown(t, "SignedAt of five rows", wrapped(impl.SignedAt(five, int64(key))), want, true)
	}
	for key, want := range []int64{0, 0, -4, -1, 0, -4} {
		wantShown(t, "SignedAt of four rows", wrapped(impl.SignedAt(four, int64(key))), want, true)
	}
	wantShown(t, "SignedNorm of five rows", wrapped(impl.SignedNorm(five)), 14, true)
	wantShown(t, "SignedNorm of four rows", wrapped(impl.SignedNorm(four)), 14, true)
	wantShown(t, "SignedNorm of one row", wrapped(impl.SignedNorm(cells(3, 1, 9, 1, -2, 3))), 14, true)
	wantShown(t, "SignedNorm of the greatest counts", wrapped(impl.SignedNorm(evenCells(64, 6, 9, -1000000))), 64000000000000, true)
	wantShown(t, "SignedNorm above", wrapped(impl.SignedNorm(cells(2, 1, 9, 0, 1000001))), 0, false)
	wantShown(t, "SignedNorm below", wrapped(impl.SignedNorm(cells(2, 2, 9, -1000001, 0, 0, 0))), 0, false)
}
