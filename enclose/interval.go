package enclose

import "math"

// Interval is all real numbers from one plain float to another.
type Interval struct {
	lo, hi float64
}

// Make is the interval of these two ends.
func Make(lo, hi float64) (Interval, error) {
	if !isPlain(lo) || !isPlain(hi) {
		return Interval{}, ErrFloat
	}
	if lo > hi {
		return Interval{}, ErrOrder
	}
	return Interval{oneZero(lo), oneZero(hi)}, nil
}

// Lo is the lower end.
func (a Interval) Lo() float64 { return a.lo }

// Hi is the upper end.
func (a Interval) Hi() float64 { return a.hi }

// Neg holds -x for each x that a holds.
func (a Interval) Neg() Interval {
	return Interval{oneZero(-a.hi), oneZero(-a.lo)}
}

// Hull is the least interval that holds both.
func (a Interval) Hull(b Interval) Interval {
	return Interval{min(a.lo, b.lo), max(a.hi, b.hi)}
}

// Meet is what both hold.
func (a Interval) Meet(b Interval) (Interval, error) {
	lo, hi := max(a.lo, b.lo), min(a.hi, b.hi)
	if lo > hi {
		return Interval{}, ErrEmpty
	}
	return Interval{lo, hi}, nil
}

func (a Interval) holdsZero() bool { return a.lo <= 0 && a.hi >= 0 }

// leastAmount is the least amount of what a holds.
func (a Interval) leastAmount() float64 {
	if a.holdsZero() {
		return 0
	}
	return min(math.Abs(a.lo), math.Abs(a.hi))
}

// greatestAmount is the greatest amount of what a holds.
func (a Interval) greatestAmount() float64 { return max(math.Abs(a.lo), math.Abs(a.hi)) }

// middle: plain floats are halved without a remainder, so that only the sum is rounded. It may be an end, or no plain float.
func (a Interval) middle() float64 { return a.lo/2 + a.hi/2 }

// point holds x alone; x is plain.
func point(x float64) Interval { return Interval{oneZero(x), oneZero(x)} }

// isPlain is false for NaN too: no comparison with it holds.
func isPlain(x float64) bool {
	const least, greatest = 0x1p-900, 0x1p+900
	amount := math.Abs(x)
	return amount == 0 || amount >= least && amount <= greatest
}

// oneZero makes +0 of both zeros: the program answers no other.
func oneZero(x float64) float64 {
	if x == 0 {
		return 0
	}
	return x
}
