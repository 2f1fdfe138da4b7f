package enclose

import "slices"

// Eval holds the values of a polynomial, of which p[k] is the number at the power k, for each x.
func Eval(p []float64, x Interval) (Interval, error) {
	if err := checkNumbers(p); err != nil {
		return Interval{}, err
	}
	return horner(p, x)
}

// Roots goes through the pieces of x, from the lowest one on, in which the polynomial may be 0.
func Roots(p []float64, x Interval, depth int) (func(yield func(Interval) bool), error) {
	const deepest = 8
	if err := checkNumbers(p); err != nil {
		return nil, err
	}
	if depth < 0 || depth > deepest {
		return nil, ErrShape
	}
	own := slices.Clone(p) // the caller may change p while the loop is still to be gone through
	return func(yield func(Interval) bool) {
		if yield != nil { // it may be called by hand, and no call panics
			search(own, x, depth, yield)
		}
	}, nil
}

func checkNumbers(p []float64) error {
	const most = 9
	if len(p) == 0 || len(p) > most {
		return ErrShape
	}
	for _, number := range p {
		if !isPlain(number) {
			return ErrFloat
		}
	}
	return nil
}

// horner: the numbers of p have been checked.
func horner(p []float64, x Interval) (Interval, error) {
	last := len(p) - 1
	r := point(p[last])
	for k := last - 1; k >= 0; k-- {
		times, err := r.Mul(x)
		if err != nil {
			return Interval{}, err
		}
		r, err = times.Add(point(p[k]))
		if err != nil {
			return Interval{}, err
		}
	}
	return r, nil
}

// search yields what comes of one piece; it answers whether the loop goes on, so that nothing is yielded to one that has ended.
func search(p []float64, x Interval, depth int, yield func(Interval) bool) bool {
	values, err := horner(p, x)
	if err == nil && !values.holdsZero() {
		return true
	}
	m := x.middle()
	if depth == 0 || !isPlain(m) || m <= x.lo || m >= x.hi {
		return yield(x)
	}
	return search(p, Interval{x.lo, m}, depth-1, yield) &&
		search(p, Interval{m, x.hi}, depth-1, yield)
}
