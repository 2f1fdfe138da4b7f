package enclose

import (
	"math"
	"testing"
)

// TestWidened asks for ends that Solve comes to too seldom for a test from outside.
func TestWidened(t *testing.T) {
	const least, most = 0x1p-900, 0x1p900
	above, below := math.Nextafter(least, 1), math.Nextafter(least, 0)
	for _, c := range []struct{ lo, hi, wantLo, wantHi float64 }{
		{0, 0, 0, 0},
		{1, 2, 1, 2},
		{least, above, least, above},
		{-above, -least, -above, -least},
		{below, 1, 0, 1},
		{below, below, 0, least},
		{-below, -below, -least, 0},
		{-below, below, -least, least},
		{-1, below, -1, least},
		{-1, -below, -1, 0},
		{-below, 0, -least, 0},
		{0, 0x1p-1000, 0, least},
		{0x1p-1000, most, 0, most},
		{-most, -0x1p-1000, -most, 0},
		{math.SmallestNonzeroFloat64, math.SmallestNonzeroFloat64, 0, least},
		{-most, most, -most, most},
	} {
		a, err := widened(c.lo, c.hi)
		if err != nil || math.Float64bits(a.lo) != math.Float64bits(c.wantLo) || math.Float64bits(a.hi) != math.Float64bits(c.wantHi) {
			t.Errorf("P9: around %x and %x: %x, %v, want [%x, %x]", c.lo, c.hi, a, err, c.wantLo, c.wantHi)
		}
	}
	far := math.Nextafter(most, math.Inf(1))
	for _, c := range [][2]float64{{0, far}, {-far, 0}, {far, far}, {-far, far}, {0, math.Inf(1)}, {math.Inf(-1), 0}, {math.NaN(), 0}, {0, math.NaN()}} {
		if a, err := widened(c[0], c[1]); err != ErrSure || a != (Interval{}) {
			t.Errorf("P9: around %x and %x: %x, %v, want ErrSure", c[0], c[1], a, err)
		}
	}
}
