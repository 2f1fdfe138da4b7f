package enclose

import (
	"math"
	"slices"
)

// Solve holds the numbers that solve a system of equations: a has its rows, b its right side. Each interval stands for all numbers that it holds.
func Solve(a [][]Interval, b []Interval) ([]Interval, error) {
	if !isSquare(a, len(b)) {
		return nil, ErrShape
	}
	rows := equations(a, b)
	for _, row := range rows {
		if slices.ContainsFunc(row, outOfReach) {
			return nil, ErrRange
		}
	}
	if err := eliminate(rows); err != nil {
		return nil, err
	}
	return substitute(rows)
}

func isSquare(a [][]Interval, n int) bool {
	const most = 4
	if n == 0 || n > most || len(a) != n {
		return false
	}
	for _, row := range a {
		if len(row) != n {
			return false
		}
	}
	return true
}

// equations are the rows, each with its right side behind it, in memory of their own: they are changed, and a caller's rows may be one and the same.
func equations(a [][]Interval, b []Interval) [][]Interval {
	rows := make([][]Interval, len(b))
	for i := range b {
		rows[i] = append(slices.Clone(a[i]), b[i])
	}
	return rows
}

func outOfReach(a Interval) bool { return !inReach(a.lo) || !inReach(a.hi) }

func inReach(x float64) bool {
	const least, greatest = 0x1p-30, 0x1p+30
	amount := math.Abs(x)
	return amount == 0 || amount >= least && amount <= greatest
}

// eliminate brings the equations into the form of steps. As no pivot holds 0, no determinant is 0. What stands below a pivot would be 0, and is left as it is: nothing reads it any more.
func eliminate(rows [][]Interval) error {
	for k := range rows {
		at, err := pivot(rows, k)
		if err != nil {
			return err
		}
		rows[k], rows[at] = rows[at], rows[k]
		for _, row := range rows[k+1:] {
			if err := takeFrom(row, rows[k], k); err != nil {
				return err
			}
		}
	}
	return nil
}

// pivot finds the equation, from the k-th one on, whose number at k is the greatest beside the others of its own equation. A rule that held the numbers of one column against each other would go by the scale of the equations, which tells nothing, and might lose most of the digits.
func pivot(rows [][]Interval, k int) (int, error) {
	best, at := 0.0, -1
search:
	for i := k; i < len(rows); i++ {
		least := rows[i][k].leastAmount()
		if least == 0 {
			continue
		}
		share := 1.0
		for _, other := range rows[i][k:len(rows)] {
			share = min(share, least/other.greatestAmount())
			if share <= best {
				continue search
			}
		}
		best, at = share, i
	}
	if at < 0 {
		return 0, ErrSure
	}
	return at, nil
}

// takeFrom takes the pivot's equation from another one, so many times that nothing is left at k.
func takeFrom(row, by []Interval, k int) error {
	times, err := widened(corners(quotient, row[k], by[k]))
	if err != nil {
		return err
	}
	for j := k + 1; j < len(row); j++ {
		if row[j], err = lessProduct(row[j], times, by[j]); err != nil {
			return err
		}
	}
	return nil
}

// substitute finds the numbers from the last one on, each by the ones behind it.
func substitute(rows [][]Interval) ([]Interval, error) {
	n := len(rows)
	found := make([]Interval, n)
	for i := n - 1; i >= 0; i-- {
		rest := rows[i][n]
		var err error
		for j := i + 1; j < n; j++ {
			if rest, err = lessProduct(rest, rows[i][j], found[j]); err != nil {
				return nil, err
			}
		}
		if found[i], err = widened(corners(quotient, rest, rows[i][i])); err != nil {
			return nil, err
		}
	}
	return found, nil
}

// lessProduct holds each x - y * z.
func lessProduct(a, b, c Interval) (Interval, error) {
	times, err := widened(corners(product, b, c))
	if err != nil {
		return Interval{}, err
	}
	return widened(differences(a, times))
}

// widened is an interval around all from lo to hi. It need not be the least one: an end that is too near to 0 for a plain float gives way outwards, since the greater numbers of an answer do not hang on it.
func widened(lo, hi float64) (Interval, error) {
	a, err := Make(plainBelow(lo), -plainBelow(-hi))
	if err != nil {
		return Interval{}, ErrSure
	}
	return a, nil
}

// plainBelow goes down to a plain float; a number that is too great for one stays.
func plainBelow(x float64) float64 {
	const least = 0x1p-900
	if x > 0 && x < least {
		return 0
	}
	if x < 0 && x > -least {
		return -least
	}
	return x
}
