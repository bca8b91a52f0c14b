package tests

import (
	"math"
	"math/rand"
	"testing"

	"loop.example/g01347/impl"
)

// The bits of these tables were computed from the document apart from the program.

func TestSines(t *testing.T) {
	cases := []struct{ x, sine uint32 }{
		{plusZero, plusZero},
		{minusZero, minusZero},
		{0x3e000000, 0x3f3504f3}, // 0.125
		{0x3e800000, 0x3f800000}, // 0.25
		{0x3e99999a, 0x3f737870}, // 0.3
		{0x3f000000, minusZero},  // 0.5
		{0x3f19999a, 0xbf16791a}, // 0.6
		{0x3f400000, 0xbf800000}, // 0.75
		{0x3f666666, 0xbf16791a}, // 0.9
		{0x3f800000, plusZero},   // 1
		{0xbf800000, plusZero},   // -1
		{0xbe800000, 0xbf800000}, // -0.25
		{0xbdcccccd, 0xbf167918}, // -0.1
		{0xbf333333, 0x3f737870}, // -0.7
		{0x40e9999a, 0x3f73786a}, // 7.3
		{0x447a0800, 0x3f3504f3}, // 1000.125
		{0x0da24260, 0x0efee054}, // 1e-30
		{0x8da24260, minusZero},  // -1e-30, which is rounded to a whole turn
		{leastBits, 0x00000006},
		{0x80000001, minusZero},
		{0x4affffff, minusZero}, // 8388607.5
		{0xcaffffff, minusZero},
		// Numbers that a shorter series, or one that is cut later, gives other bits.
		{0x3e434f37, 0x3f6e7421},
		{0x3e5d0d36, 0x3f7a22f0},
		{0x3e915212, 0x3f7a3d1c},
		{0x3f48a909, 0xbf7a3d1c},
		{0x597fffff, plusZero}, // the greatest one less than 2^52
		{0x59800000, plusZero}, // 2^52
		{0xd9800000, plusZero},
		{greatest, plusZero},
		{0xff7fffff, plusZero},
		{plusInf, noNumber},
		{minusInf, noNumber},
		{noNumber, noNumber},
	}
	for _, c := range cases {
		wantNumber(t, shown("SineTurns", number(c.x)), impl.SineTurns(number(c.x)), c.sine)
	}
}

func TestPhasors(t *testing.T) {
	cases := []struct {
		turns  float64
		re, im uint32
	}{
		{0, 0x3f800000, plusZero},
		{math.Copysign(0, -1), 0x3f800000, minusZero},
		{0.125, 0x3f3504f3, 0x3f3504f3},
		{0.25, plusZero, 0x3f800000},
		{0.3, 0xbe9e377a, 0x3f737871},
		{0.5, 0xbf800000, plusZero},
		{0.6, 0xbf4f1bbd, 0xbf167918},
		{0.75, plusZero, 0xbf800000},
		{0.9, 0x3f4f1bbd, 0xbf167918},
		{1, 0x3f800000, plusZero},
		{-1, 0x3f800000, plusZero},
		{-0.25, plusZero, 0xbf800000},
		{-0.1, 0x3f4f1bbd, 0xbf167918},
		{-1e-30, 0x3f800000, plusZero}, // rounded to a whole turn
		{1e-300, 0x3f800000, plusZero},
		{1.0 / 3, 0xbf000000, 0x3f5db3d7},
		{-2.0 / 3, 0xbf000000, 0x3f5db3d7},
		{123456.789, 0x3e786bef, 0xbf785a37},
		{1<<52 - 0.5, 0xbf800000, plusZero},
		{-1<<52 + 0.5, 0xbf800000, plusZero},
		{1 << 52, 0x3f800000, plusZero},
		{-1 << 52, 0x3f800000, plusZero},
		{1e300, 0x3f800000, plusZero},
		{math.Inf(1), noNumber, noNumber},
		{math.Inf(-1), noNumber, noNumber},
		{math.NaN(), noNumber, noNumber},
	}
	for _, c := range cases {
		wantPoint(t, shown("PhasorOf", c.turns), impl.PhasorOf(c.turns), c.re, c.im)
	}
	wantNumber(t, "the angle of the phasor of 0.25", impl.AngleOf(impl.PhasorOf(0.25)), 0x3e800000)
}

func TestAngles(t *testing.T) {
	cases := []struct{ y, x, angle uint32 }{
		{plusZero, 0x3f800000, plusZero},
		{minusZero, 0x3f800000, plusZero},
		{plusZero, 0xbf800000, 0x3f000000},
		{minusZero, 0xbf800000, 0x3f000000}, // -0 is not less than 0
		{0x3f800000, plusZero, 0x3e800000},
		{0x3f800000, minusZero, 0x3e800000},
		{0xbf800000, plusZero, 0xbe800000},
		{0x3f800000, 0x3f800000, 0x3e000000},
		{0x3f800000, 0xbf800000, 0x3ec00000},
		{0xbf800000, 0xbf800000, 0xbec00000},
		{0xbf800000, 0x3f800000, 0xbe000000},
		{0x40400000, 0x40800000, 0x3dd1bfae}, // 3 and 4
		{0x40800000, 0x40400000, 0x3e172029},
		{0xc0400000, 0x40800000, 0xbdd1bfae},
		{0x40800000, 0xc0400000, 0x3eb46fec},
		{0x3dcccccd, 0x3f333333, 0x3cb90148}, // 0.1 and 0.7
		{0x3f333333, 0x3dcccccd, 0x3e68dfd7},
		{0x3f3850c9, 0x3f800000, 0x3dcb656c}, // other bits if it is halved more often
		{0x3f2712d0, 0x3f800000, 0x3dbc78a1},
		{leastBits, 0x3f800000, plusZero},
		{0x3f800000, leastBits, 0x3e800000},
		{leastBits, leastBits, 0x3e000000},
		{greatest, greatest, 0x3e000000},
		{greatest, 0xbf800000, 0x3e800000},
		{plusZero, plusZero, plusZero},
		{minusZero, plusZero, plusZero},
		{plusZero, minusZero, plusZero},
		{minusZero, minusZero, plusZero},
		{plusInf, 0x3f800000, noNumber},
		{0x3f800000, minusInf, noNumber},
		{noNumber, plusZero, noNumber},
		{plusZero, noNumber, noNumber},
	}
	for _, c := range cases {
		y, x := number(c.y), number(c.x)
		wantNumber(t, shown("AngleTurns", y, x), impl.AngleTurns(y, x), c.angle)
		wantNumber(t, shown("AngleOf", x, y), impl.AngleOf(complex(x, y)), c.angle)
	}
}

func TestCirclesAgreeWithTheLibrary(t *testing.T) {
	random := rand.New(rand.NewSource(1))
	for range 20000 {
		x := float32(random.NormFloat64() * 3)
		y := float32(random.NormFloat64() * 3)
		turns := 2 * math.Pi * float64(x)
		if got := float64(impl.SineTurns(x)); math.Abs(got-math.Sin(turns)) > 1e-7 {
			t.Fatalf("SineTurns %v: got %v", x, got)
		}
		p := impl.PhasorOf(float64(x))
		if math.Abs(float64(real(p))-math.Cos(turns)) > 1e-7 || math.Abs(float64(imag(p))-math.Sin(turns)) > 1e-7 {
			t.Fatalf("PhasorOf %v: got %v", x, p)
		}
		if got := float64(impl.AngleTurns(y, x)); math.Abs(got-math.Atan2(float64(y), float64(x))/(2*math.Pi)) > 1e-7 {
			t.Fatalf("AngleTurns %v, %v: got %v", y, x, got)
		}
	}
}

func TestTenthsAndLogarithms(t *testing.T) {
	cases := []struct {
		x      uint32
		tenths int64
		log    uint32
	}{
		{0x3f800000, 0, plusZero},
		{0x40000000, 30, 0x3f317218},
		{0x3f000000, -30, 0xbf317218},
		{0x40400000, 48, 0x3f8c9f54},
		{0x40e00000, 85, 0x3ff91395},
		{0x41200000, 100, 0x40135d8e},
		{0x42c80000, 200, 0x40935d8e},
		{0x3dcccccd, -100, 0xc0135d8e},
		{0x3f3ffffe, -12, 0xbe934b16},
		{0x3f400000, -12, 0xbe934b11}, // 0.75
		{0x3fbfffff, 18, 0x3ecf991d},
		{0x3fc00000, 18, 0x3ecf991f}, // 1.5
		{0x3f817b6f, 0, 0x3c3ca076},
		{0x3f817b70, 1, 0x3c3ca0f5},
		{0x3f7d11d0, -1, 0xbc3ca0e9},
		{0x3f7d11d1, 0, 0xbc3ca0a8},
		{0x4e712de8, 900, 0x41a5e0d4},
		{0x4e712de9, 901, 0x41a5e0d4},
		{greatest, 3853, 0x42b17218},
		{leastPlain, -3793, 0xc2aeac50},
		{0x00400000, -3823, 0xc2b00f34},
		{leastBits, -4485, 0xc2ce8ed0},
	}
	for _, c := range cases {
		if got, ok := impl.TenthsOf(number(c.x)); !ok || got != c.tenths {
			t.Errorf("TenthsOf %08x: got %d, %v, want %d", c.x, got, ok, c.tenths)
		}
		wantNumber(t, shown("LogNumber", number(c.x)), impl.LogNumber(number(c.x)), c.log)
	}
	for x, log := range map[uint32]uint32{plusZero: minusInf, minusZero: minusInf, 0x80000001: noNumber, 0xbf800000: noNumber, minusInf: noNumber, plusInf: plusInf, noNumber: noNumber} {
		if got, ok := impl.TenthsOf(number(x)); ok || got != 0 {
			t.Errorf("TenthsOf %08x: got %d, %v", x, got, ok)
		}
		wantNumber(t, shown("LogNumber", number(x)), impl.LogNumber(number(x)), log)
	}
}

func TestExponentials(t *testing.T) {
	cases := []struct{ x, power uint32 }{
		{plusZero, 0x3f800000},
		{minusZero, 0x3f800000},
		{leastBits, 0x3f800000},
		{0x3f800000, 0x402df854}, // 1
		{0xbf800000, 0x3ebc5ab2},
		{0x3f000000, 0x3fd3094c},
		{0x41200000, 0x46ac14ee}, // 10
		{0xc1200000, 0x383e6bce},
		{0x41a40000, 0x4e3eb628}, // 20.5
		{0x42480000, 0x638c881f}, // 50
		{0x4286088f, 0x6fcdbda3}, // other bits with a shorter series
		{0x42940fd7, 0x74df7d6c},
		{0x42b17217, 0x7f7fff84}, // the greatest one whose power is finite
		{0x42b17218, plusInf},
		{0xc2aeac50, 0x007fffe6}, // a subnormal power
		{0xc2c80000, 0x0000001b}, // -100
		{0xc2cfcccd, leastBits},  // -103.9
		{0xc2d00000, plusZero},   // -104
		{0x43480000, plusInf},    // 200
		{0x43480001, plusInf},
		{0xc3480000, plusZero},
		{0xc3480001, plusZero},
		{greatest, plusInf},
		{0xff7fffff, plusZero},
		{plusInf, plusInf},
		{minusInf, plusZero},
		{noNumber, noNumber},
	}
	for _, c := range cases {
		wantNumber(t, shown("ExpNumber", number(c.x)), impl.ExpNumber(number(c.x)), c.power)
	}
}
