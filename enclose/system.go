package enclose

// Solve is not built yet.
func Solve(a [][]Interval, b []Interval) ([]Interval, error) { return nil, nil }
