package tests

import (
	"math"
	"testing"

	"loop.example/g01347/impl"
)

// decay is the decay whose half and sum have these bits, made without the program.
func decay(half, sum uint32, mark int64) impl.Decay {
	return impl.Decay{Half: number(half), Sum: number(sum), Mark: mark}
}

// oneBits is the bits of 1.
const oneBits = 0x3f800000

// invalidDecays pass each limit of decays by one, and far.
func invalidDecays() map[string]impl.Decay {
	invalid := map[string]impl.Decay{
		"the zero struct":     {},
		"a half of 0":         decay(plusZero, oneBits, 3),
		"a half of -0":        decay(minusZero, oneBits, 3),
		"a half below 0":      decay(leastBits|minusZero, oneBits, 3),
		"a half of -1":        decay(oneBits|minusZero, oneBits, 3),
		"the least half":      decay(greatest|minusZero, oneBits, 3),
		"a mark below":        decay(oneBits, oneBits, -1),
		"a mark above":        decay(oneBits, oneBits, impl.MaxTime+1),
		"the least mark":      decay(oneBits, oneBits, math.MinInt64),
		"the greatest mark":   decay(oneBits, oneBits, math.MaxInt64),
		"a sum without marks": decay(oneBits, plusZero, -7),
	}
	for _, bits := range notFinite {
		what := impl.Decimal(int64(bits))
		invalid["a half of "+what] = decay(bits, oneBits, 3)
		invalid["a sum of "+what] = decay(oneBits, bits, 3)
		invalid["both of "+what] = decay(bits, bits, 3)
	}
	return invalid
}

// someDecays are valid, some of them at their limits.
func someDecays() []impl.Decay {
	return []impl.Decay{
		decay(oneBits, 0x41000000, 0),
		decay(oneBits, 0xc1000000, 3),
		decay(leastBits, greatest, impl.MaxTime),
		decay(greatest, greatest|minusZero, 0),
		decay(leastPlain, plusZero, 5),
		decay(mostSubBit, minusZero, 5),
		decay(0x3e99999a, leastBits|minusZero, 999999),
	}
}

func TestValidDecay(t *testing.T) {
	for _, d := range someDecays() {
		wantTrue(t, "ValidDecay "+shown(d), impl.ValidDecay(d))
	}
	for what, d := range invalidDecays() {
		wantFalse(t, "ValidDecay with "+what, impl.ValidDecay(d))
	}
}

func TestSameDecay(t *testing.T) {
	d := decay(oneBits, 0x41000000, 3)
	for _, other := range []impl.Decay{decay(0x3f800001, 0x41000000, 3), decay(oneBits, 0x41000001, 3), decay(oneBits, 0x41000000, 4), decay(oneBits, 0x41000000, -3), decay(oneBits|minusZero, 0x41000000, 3), decay(oneBits, 0xc1000000, 3), decay(noNumber, 0x41000000, 3), decay(oneBits, noNumber, 3), {}} {
		wantFalse(t, "SameDecay", impl.SameDecay(d, other) || impl.SameDecay(other, d))
	}
	wantTrue(t, "SameDecay", impl.SameDecay(d, decay(oneBits, 0x41000000, 3)))
	wantFalse(t, "SameDecay of sums of both zeros", impl.SameDecay(decay(oneBits, plusZero, 3), decay(oneBits, minusZero, 3)))
	wantFalse(t, "SameDecay of halves of both zeros", impl.SameDecay(decay(minusZero, oneBits, 3), decay(plusZero, oneBits, 3)))
	wantTrue(t, "SameDecay of not-a-numbers", impl.SameDecay(decay(noNumber, 0xffffffff, -9), decay(0x7f800001, noNumber, -9)))
	wantFalse(t, "SameDecay of infinities", impl.SameDecay(decay(plusInf, plusInf, 0), decay(plusInf, minusInf, 0)))
	for what, invalid := range invalidDecays() {
		wantTrue(t, "SameDecay of itself with "+what, impl.SameDecay(invalid, invalid))
	}
}

func TestDecayAt(t *testing.T) {
	rows := []struct {
		half, sum  uint32
		mark, time int64
		want       uint32
	}{
		{oneBits, 0x41000000, 0, 0, 0x41000000},
		{oneBits, 0x41000000, 0, 1, 0x40800000},
		{oneBits, 0x41000000, 0, 2, 0x40000000},
		{oneBits, 0x41000000, 5, 8, oneBits},
		{oneBits, 0x41000000, 0, 10, 0x3c000000},
		{0x40000000, 0xc0400000, 7, 8, 0xc007c3b6},
		{0x3e99999a, 0x40a00000, 0, 1, 0x3efdfbf2},
		{0x447a0000, 0x40a00000, 0, impl.MaxTime, plusZero},
		{oneBits, 0x41000000, 0, 288, plusZero},
		{oneBits, 0x41000000, 0, 289, plusZero},
		{oneBits, 0x41000000, 0, impl.MaxTime, plusZero},
		{leastBits, 0x41000000, 3, 3, 0x41000000},
		{leastBits, 0x41000000, 3, 4, plusZero},
		{leastBits, 0xc1000000, 3, 4, minusZero},
		{greatest, 0x41000000, 0, impl.MaxTime, 0x41000000},
		{greatest, greatest, 0, impl.MaxTime, greatest},
		{0x7f000000, 0x40400000, 0, 1, 0x40400000},
		{leastPlain, 0x40400000, 0, 1, plusZero},
		{leastPlain, 0x40400000, 9, 9, 0x40400000},
		{oneBits, plusZero, 0, 1, plusZero},
		{oneBits, minusZero, 0, 1, minusZero},
		{oneBits, minusZero, 4, 4, minusZero},
		{oneBits, minusZero, 0, impl.MaxTime, minusZero},
		{oneBits, leastBits, 0, 1, plusZero},
		{oneBits, leastBits, 0, 0, leastBits},
		{oneBits, 0x00000002, 0, 1, leastBits},
		{oneBits, 0x00000003, 0, 1, 0x00000002},
		{oneBits, greatest | minusZero, 0, 1, 0xfeffffff},
		{oneBits, greatest, 0, 20, 0x757ffffe},
		{0x41200000, 0x7149f2ca, 100, 1234, 0x38990c5d},
		{0x40e00000, 0x42f6e979, 999990, impl.MaxTime, 0x42377476},
		{0x49742400, oneBits, 0, impl.MaxTime, 0x3f000000},
		{0x49742400, oneBits, impl.MaxTime, impl.MaxTime, oneBits},
		{0x42000000, oneBits, 0, 1, 0x3f7a83b3},
		{0x3f333333, 0x3fc00000, 0, 3, 0x3d9d811e},
		{0x42c80000, 0x3dcccccd, 0, 33, 0x3da2ed06},
		{0x42c80000, 0x3dcccccd, 0, 34, 0x3da1cceb},
	}
	for _, row := range rows {
		d := decay(row.half, row.sum, row.mark)
		wantShown(t, "DecayAt "+shown(d, row.time), wrapped(impl.DecayAt(d, row.time)), number(row.want), true)
	}
}

func TestPutDecay(t *testing.T) {
	rows := []struct {
		half, sum  uint32
		mark, time int64
		x, want    uint32
		ok         bool
	}{
		{oneBits, 0x41000000, 0, 0, 0x40000000, 0x41200000, true},
		{oneBits, 0x41000000, 0, 1, 0x40000000, 0x40c00000, true},
		{oneBits, 0x41000000, 0, 1, 0xc0800000, plusZero, true},
		{oneBits, plusZero, 0, 0, plusZero, plusZero, true},
		{oneBits, minusZero, 0, 0, minusZero, minusZero, true},
		{oneBits, minusZero, 0, 9, minusZero, minusZero, true},
		{oneBits, minusZero, 0, 0, plusZero, plusZero, true},
		{oneBits, plusZero, 0, 0, minusZero, plusZero, true},
		{oneBits, 0x40a00000, 3, 3, 0xc0a00000, plusZero, true},
		{oneBits, 0xc0a00000, 3, 3, 0x40a00000, plusZero, true},
		{leastBits, 0x41000000, 3, 4, minusZero, plusZero, true},
		{leastBits, 0xc1000000, 3, 4, minusZero, minusZero, true},
		{leastBits, 0xc1000000, 3, 4, plusZero, plusZero, true},
		{greatest, greatest, 0, impl.MaxTime, greatest | minusZero, plusZero, true},
		{oneBits, greatest, 0, 1, greatest, plusZero, false},
		{oneBits, greatest, 0, 0, 0x72ffffff, greatest, true},
		{oneBits, greatest, 0, 0, 0x73000000, plusZero, false},
		{oneBits, greatest | minusZero, 0, 0, 0xf3000000, plusZero, false},
		{oneBits, greatest, 0, 0, greatest, plusZero, false},
		{0x40000000, 0x4b800000, 0, 0, oneBits, 0x4b800000, true},
		{0x40000000, 0x4b800000, 0, 0, 0x40000000, 0x4b800001, true},
		{0x40a00000, oneBits, impl.MaxTime, impl.MaxTime, oneBits, 0x40000000, true},
		{0x40a00000, leastBits, 0, 0, leastBits, 0x00000002, true},
		{0x40400000, 0x3dcccccd, 2, 9, 0x3e4ccccd, 0x3e611e66, true},
	}
	for _, row := range rows {
		d, want := decay(row.half, row.sum, row.mark), impl.Decay{}
		if row.ok {
			want = decay(row.half, row.want, row.time)
		}
		got, ok := impl.PutDecay(d, row.time, number(row.x))
		wantShown(t, "PutDecay "+shown(d, row.time, number(row.x)), shown(got.Half, got.Sum, got.Mark, ok), want.Half, want.Sum, want.Mark, row.ok)
	}
}

func TestJoinDecays(t *testing.T) {
	rows := []struct {
		half, sumA uint32
		markA      int64
		sumB       uint32
		markB      int64
		want       uint32
		mark       int64
		ok         bool
	}{
		{oneBits, 0x41000000, 0, 0x41200000, 0, 0x41900000, 0, true},
		{oneBits, 0x41000000, 0, 0x41200000, 1, 0x41600000, 1, true},
		{oneBits, 0x41000000, 1, 0x41200000, 0, 0x41500000, 1, true},
		{oneBits, 0x41000000, 3, 0xc1000000, 3, plusZero, 3, true},
		{oneBits, minusZero, 3, minusZero, 3, minusZero, 3, true},
		{oneBits, minusZero, 3, minusZero, 9, minusZero, 9, true},
		{oneBits, plusZero, 3, minusZero, 3, plusZero, 3, true},
		{oneBits, minusZero, 0, plusZero, 5, plusZero, 5, true},
		{leastBits, 0x41000000, 0, minusZero, 1, plusZero, 1, true},
		{leastBits, 0xc1000000, 0, minusZero, 1, minusZero, 1, true},
		{leastBits, 0xc1000000, 1, 0x40400000, 1, 0xc0a00000, 1, true},
		{greatest, 0x41000000, 0, oneBits, impl.MaxTime, 0x41100000, impl.MaxTime, true},
		{oneBits, greatest, 0, greatest, 0, plusZero, 0, false},
		{oneBits, greatest, 0, greatest, 1, plusZero, 0, false},
		{oneBits, greatest | minusZero, 5, greatest | minusZero, 5, plusZero, 0, false},
		{oneBits, greatest, 0, 0x73000000, 0, plusZero, 0, false},
		{oneBits, greatest, 0, 0x72ffffff, 0, greatest, 0, true},
		{0x3e99999a, 0x40a00000, 17, 0x40e00000, 20, 0x40e02800, 20, true},
		{0x41a00000, 0x3dcccccd, 100, 0x3e4ccccd, 33, 0x3df4f881, 100, true},
		{0x41a00000, 0x3dcccccd, 33, 0x3e4ccccd, 100, 0x3e56d7ba, 100, true},
		{0x49742400, oneBits, 0, oneBits, impl.MaxTime, 0x3fc00000, impl.MaxTime, true},
	}
	for _, row := range rows {
		a, b, want := decay(row.half, row.sumA, row.markA), decay(row.half, row.sumB, row.markB), impl.Decay{}
		if row.ok {
			want = decay(row.half, row.want, row.mark)
		}
		for _, pair := range [][2]impl.Decay{{a, b}, {b, a}} {
			got, ok := impl.JoinDecays(pair[0], pair[1])
			wantShown(t, "JoinDecays "+shown(pair), shown(got.Half, got.Sum, got.Mark, ok), want.Half, want.Sum, want.Mark, row.ok)
		}
	}
	for _, half := range []uint32{0x3f800001, 0x40000000, leastBits, greatest} {
		wantShown(t, "JoinDecays with another half", wrapped(impl.JoinDecays(decay(oneBits, oneBits, 3), decay(half, oneBits, 3))), impl.Decay{}, false)
	}
}

func TestDecaysWithInvalidOnes(t *testing.T) {
	valid := decay(oneBits, 0x41000000, 3)
	for what, d := range invalidDecays() {
		for _, time := range []int64{0, 3, impl.MaxTime, -1, impl.MaxTime + 1, math.MaxInt64} {
			wantShown(t, "DecayAt with "+what, wrapped(impl.DecayAt(d, time)), float32(0), false)
			wantShown(t, "PutDecay with "+what, wrapped(impl.PutDecay(d, time, 2)), impl.Decay{}, false)
		}
		for _, pair := range [][2]impl.Decay{{d, d}, {d, valid}, {valid, d}, {d, decay(bitsOf(d.Half), oneBits, 3)}} {
			wantShown(t, "JoinDecays with "+what, wrapped(impl.JoinDecays(pair[0], pair[1])), impl.Decay{}, false)
		}
	}
	for _, time := range append([]int64{0, 1, 2}, wrongTimes...) {
		wantShown(t, "DecayAt a wrong time", wrapped(impl.DecayAt(valid, time)), float32(0), false)
		wantShown(t, "PutDecay at a wrong time", wrapped(impl.PutDecay(valid, time, 2)), impl.Decay{}, false)
	}
	for _, bits := range notFinite {
		wantShown(t, "PutDecay no finite number", wrapped(impl.PutDecay(valid, 3, number(bits))), impl.Decay{}, false)
	}
}
