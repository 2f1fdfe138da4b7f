package enclose

// Add holds each x + y, for x of a and y of b.
func (a Interval) Add(b Interval) (Interval, error) {
	return within("+", sum(a.lo, b.lo).down, sum(a.hi, b.hi).up)
}

// Sub holds each x - y.
func (a Interval) Sub(b Interval) (Interval, error) {
	lo, hi := differences(a, b)
	return within("-", lo, hi)
}

// Mul holds each x * y.
func (a Interval) Mul(b Interval) (Interval, error) {
	lo, hi := corners(product, a, b)
	return within("*", lo, hi)
}

// Div holds each x / y.
func (a Interval) Div(b Interval) (Interval, error) {
	if b.holdsZero() {
		return Interval{}, &OpError{"/", ErrZero}
	}
	lo, hi := corners(quotient, a, b)
	return within("/", lo, hi)
}

// Sqrt holds the root of each x.
func (a Interval) Sqrt() (Interval, error) {
	if a.lo < 0 {
		return Interval{}, &OpError{"sqrt", ErrNegative}
	}
	return within("sqrt", root(a.lo).down, root(a.hi).up)
}

func differences(a, b Interval) (lo, hi float64) {
	return sum(a.lo, -b.hi).down, sum(a.hi, -b.lo).up
}

// corners: products and quotients rise or fall all along each of their two numbers, so that the outermost ones are among those of the ends.
func corners(do func(x, y float64) bounds, a, b Interval) (lo, hi float64) {
	first := do(a.lo, b.lo)
	lo, hi = first.down, first.up
	for _, c := range [3]bounds{do(a.lo, b.hi), do(a.hi, b.lo), do(a.hi, b.hi)} {
		lo, hi = min(lo, c.down), max(hi, c.up)
	}
	return lo, hi
}

// within is the interval of these ends, if there is one.
func within(op string, lo, hi float64) (Interval, error) {
	if !isPlain(lo) || !isPlain(hi) {
		return Interval{}, &OpError{op, ErrRange}
	}
	return Interval{lo, hi}, nil
}
