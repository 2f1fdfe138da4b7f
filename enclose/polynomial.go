package enclose

// Eval is not built yet.
func Eval(p []float64, x Interval) (Interval, error) { return Interval{}, nil }

// Roots is not built yet.
func Roots(p []float64, x Interval, depth int) (func(yield func(Interval) bool), error) {
	return nil, nil
}
