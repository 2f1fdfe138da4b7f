package enclose_test

import (
	"math"
	"testing"

	"enclose/enclose"
)

func TestMakePlain(t *testing.T) {
	for _, c := range [][2]float64{
		{1, 2}, {1, 1}, {-2, -1}, {-1, 1}, {0, 0}, {0, 1}, {-1, 0}, {0.1, 0.2},
		{0x1p-900, 0x1p900}, {-0x1p900, -0x1p-900}, {-0x1p-900, 0x1p-900}, {-0x1p900, 0x1p900},
		{above(0x1p-900), below(0x1p900)}, {math.MaxInt64, math.MaxUint64},
	} {
		a, err := enclose.Make(c[0], c[1])
		if err != nil || !hasEnds(a, c[0], c[1]) {
			t.Errorf("P2: Make(%x, %x) = %x, %v", c[0], c[1], a, err)
		}
	}
}

func TestMakeZeros(t *testing.T) {
	for _, lo := range []float64{0, minusZero, -1} {
		for _, hi := range []float64{0, minusZero, 1} {
			wantLo, wantHi := lo, hi
			if lo == 0 {
				wantLo = 0
			}
			if hi == 0 {
				wantHi = 0
			}
			a, err := enclose.Make(lo, hi)
			if err != nil || !hasEnds(a, wantLo, wantHi) {
				t.Errorf("P2: Make(%v, %v) = %x, %v", lo, hi, a, err)
			}
		}
	}
	if !hasEnds(enclose.Interval{}, 0, 0) {
		t.Errorf("the Interval of zero value is %x", enclose.Interval{})
	}
}

// notPlain are floats that are no end of an interval.
func notPlain() []float64 {
	l := []float64{math.NaN(), math.Float64frombits(0xfff8000000000001)}
	for _, x := range []float64{math.Inf(1), above(0x1p900), 0x1p901, math.MaxFloat64, below(0x1p-900), 0x1p-901, 0x1p-1022, 0x1p-1030, math.SmallestNonzeroFloat64} {
		l = append(l, x, -x)
	}
	return l
}

func TestMakeNotPlain(t *testing.T) {
	for _, bad := range notPlain() {
		for _, good := range []float64{0, minusZero, 1, -1, 0x1p900, -0x1p900, 0x1p-900, -0x1p-900, bad} {
			for _, c := range [][2]float64{{bad, good}, {good, bad}} {
				a, err := enclose.Make(c[0], c[1])
				if err != enclose.ErrFloat || !hasEnds(a, 0, 0) {
					t.Errorf("P2: Make(%x, %x) = %x, %v, want ErrFloat", c[0], c[1], a, err)
				}
			}
		}
	}
}

func TestMakeOrder(t *testing.T) {
	for _, c := range [][2]float64{{2, 1}, {above(1), 1}, {1, 0}, {1, minusZero}, {0, -1}, {minusZero, -0x1p-900}, {-1, -2}, {0x1p900, -0x1p900}, {0x1p-900, 0}} {
		a, err := enclose.Make(c[0], c[1])
		if err != enclose.ErrOrder || !hasEnds(a, 0, 0) {
			t.Errorf("P2: Make(%x, %x) = %x, %v, want ErrOrder", c[0], c[1], a, err)
		}
	}
}

func TestNeg(t *testing.T) {
	for _, c := range [][4]float64{
		{1, 2, -2, -1}, {-2, -1, 1, 2}, {-2, 3, -3, 2}, {0, 0, 0, 0}, {0, 1, -1, 0}, {-1, 0, 0, 1},
		{0x1p-900, 0x1p900, -0x1p900, -0x1p-900},
	} {
		if r := made(t, c[0], c[1]).Neg(); !hasEnds(r, c[2], c[3]) {
			t.Errorf("P3: Neg of [%x, %x] = %x", c[0], c[1], r)
		}
	}
}

func TestHull(t *testing.T) {
	for _, c := range [][6]float64{
		{1, 2, 5, 6, 1, 6}, {1, 5, 2, 6, 1, 6}, {1, 6, 2, 5, 1, 6}, {1, 2, 2, 3, 1, 3}, {1, 1, 1, 1, 1, 1},
		{0, 0, 0, 0, 0, 0}, {0, 0, 1, 2, 0, 2}, {-2, -1, 0, 0, -2, 0}, {-2, -1, 1, 2, -2, 2},
		{-0x1p900, -0x1p900, 0x1p900, 0x1p900, -0x1p900, 0x1p900},
	} {
		a, b := made(t, c[0], c[1]), made(t, c[2], c[3])
		if r := a.Hull(b); !hasEnds(r, c[4], c[5]) {
			t.Errorf("P3: Hull of %x and %x = %x", a, b, r)
		}
		if r := b.Hull(a); !hasEnds(r, c[4], c[5]) {
			t.Errorf("P3: Hull of %x and %x = %x", b, a, r)
		}
	}
}

func TestMeet(t *testing.T) {
	for _, c := range [][6]float64{
		{1, 5, 2, 6, 2, 5}, {1, 6, 2, 5, 2, 5}, {1, 2, 2, 3, 2, 2}, {1, 1, 1, 1, 1, 1}, {-1, 0, 0, 1, 0, 0},
		{0, 0, -1, 1, 0, 0}, {-3, -1, -2, 0, -2, -1}, {-0x1p900, 0x1p-900, 0x1p-900, 0x1p900, 0x1p-900, 0x1p-900},
	} {
		a, b := made(t, c[0], c[1]), made(t, c[2], c[3])
		if r, err := a.Meet(b); err != nil || !hasEnds(r, c[4], c[5]) {
			t.Errorf("P3: Meet of %x and %x = %x, %v", a, b, r, err)
		}
		if r, err := b.Meet(a); err != nil || !hasEnds(r, c[4], c[5]) {
			t.Errorf("P3: Meet of %x and %x = %x, %v", b, a, r, err)
		}
	}
}

func TestMeetNothing(t *testing.T) {
	for _, c := range [][4]float64{
		{1, 2, 5, 6}, {1, 2, above(2), 3}, {0, 0, 0x1p-900, 1}, {-1, -0x1p-900, 0, 0}, {-2, -1, 1, 2},
		{-0x1p900, -0x1p900, 0x1p900, 0x1p900},
	} {
		a, b := made(t, c[0], c[1]), made(t, c[2], c[3])
		if r, err := a.Meet(b); err != enclose.ErrEmpty || !hasEnds(r, 0, 0) {
			t.Errorf("P3: Meet of %x and %x = %x, %v, want ErrEmpty", a, b, r, err)
		}
		if r, err := b.Meet(a); err != enclose.ErrEmpty || !hasEnds(r, 0, 0) {
			t.Errorf("P3: Meet of %x and %x = %x, %v, want ErrEmpty", b, a, r, err)
		}
	}
}
