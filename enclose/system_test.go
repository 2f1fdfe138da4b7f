package enclose_test

import (
	"math"
	"math/big"
	"slices"
	"testing"

	"enclose/enclose"
)

// system is what Solve is asked.
type system struct {
	a [][]enclose.Interval
	b []enclose.Interval
}

// pointSystem has intervals that hold one number each.
func pointSystem(t *testing.T, rows [][]float64, right []float64) system {
	t.Helper()
	s := system{make([][]enclose.Interval, len(rows)), make([]enclose.Interval, len(right))}
	for i, row := range rows {
		for _, x := range row {
			s.a[i] = append(s.a[i], made(t, x, x))
		}
	}
	for i, x := range right {
		s.b[i] = made(t, x, x)
	}
	return s
}

// amount is a number of this sign or the other, from 2^from to under 2^to.
func (n *numbers) amount(from, to int) float64 {
	digits := n.next() >> 12
	if n.under(2) == 0 {
		digits &^= 1<<50 - 1
	}
	x := math.Ldexp(math.Float64frombits(1023<<52|digits), from+n.under(to-from))
	if n.under(2) == 0 {
		return -x
	}
	return x
}

// reachable is an end that Solve takes: 0, an edge, a small one, or anywhere.
func (n *numbers) reachable() float64 {
	switch n.under(8) {
	case 0:
		return 0
	case 1:
		return []float64{0x1p-30, -0x1p-30, 0x1p30, -0x1p30}[n.under(4)]
	case 2:
		return n.amount(-30, 30)
	}
	return float64(n.under(33)-16) / 4
}

// reachableInterval holds one number, or is narrow, or is as wide as may be.
func (n *numbers) reachableInterval(t *testing.T) enclose.Interval {
	lo := n.reachable()
	hi := lo
	switch n.under(6) {
	case 0:
		hi = n.reachable()
	case 1, 2:
		hi = lo + 0.125
	}
	for _, x := range []float64{lo, hi} {
		if x != 0 && (math.Abs(x) < 0x1p-30 || math.Abs(x) > 0x1p30) {
			return made(t, 1, 1.25)
		}
	}
	return made(t, min(lo, hi), max(lo, hi))
}

func (n *numbers) system(t *testing.T) system {
	size := 1 + n.under(4)
	s := system{make([][]enclose.Interval, size), make([]enclose.Interval, size)}
	for i := range s.b {
		for range s.b {
			s.a[i] = append(s.a[i], n.reachableInterval(t))
		}
		s.b[i] = n.reachableInterval(t)
	}
	return s
}

// held is a number that an interval holds: most often an end.
func (n *numbers) held(x enclose.Interval) *big.Rat {
	switch n.under(5) {
	case 0, 1:
		return rational(x.Lo())
	case 2, 3:
		return rational(x.Hi())
	}
	part := big.NewRat(int64(n.under(17)), 16)
	wide := exactly("-", x.Hi(), x.Lo())
	return wide.Add(wide.Mul(wide, part), rational(x.Lo()))
}

// heldSystem is one system of numbers out of all that the intervals hold.
func (n *numbers) heldSystem(s system) (rows [][]*big.Rat, right []*big.Rat) {
	for i, row := range s.a {
		rows = append(rows, nil)
		for _, x := range row {
			rows[i] = append(rows[i], n.held(x))
		}
		right = append(right, n.held(s.b[i]))
	}
	return rows, right
}

// determinant goes along the first row; rows may have more columns than there are rows.
func determinant(rows [][]*big.Rat, columns []int) *big.Rat {
	sum := new(big.Rat)
	if len(rows) == 0 {
		return sum.SetInt64(1)
	}
	for k, j := range columns {
		if rows[0][j].Sign() == 0 {
			continue
		}
		others := slices.Delete(slices.Clone(columns), k, k+1)
		term := determinant(rows[1:], others)
		term.Mul(term, rows[0][j])
		if k%2 == 1 {
			term.Neg(term)
		}
		sum.Add(sum, term)
	}
	return sum
}

// cramer solves a system of numbers without any rounding, and without elimination; nil, if the determinant is 0.
func cramer(rows [][]*big.Rat, right []*big.Rat) []*big.Rat {
	n := len(right)
	columns := make([]int, n)
	wider := make([][]*big.Rat, n)
	for i := range right {
		columns[i] = i
		wider[i] = append(slices.Clone(rows[i]), right[i])
	}
	whole := determinant(wider, columns)
	if whole.Sign() == 0 {
		return nil
	}
	var xs []*big.Rat
	for i := range right {
		with := slices.Clone(columns)
		with[i] = n // the right side in the place of a column
		d := determinant(wider, with)
		xs = append(xs, d.Quo(d, whole))
	}
	return xs
}

// checkHeld wants the numbers that solve the system, each in its interval.
func checkHeld(t *testing.T, s system, l []enclose.Interval, rows [][]*big.Rat, right []*big.Rat) {
	t.Helper()
	xs := cramer(rows, right)
	if xs == nil {
		t.Errorf("P9: Solve(%x, %x) = %x, but of %v the determinant is 0", s.a, s.b, l, rows)
		return
	}
	for i, x := range xs {
		if rational(l[i].Lo()).Cmp(x) > 0 || rational(l[i].Hi()).Cmp(x) < 0 {
			f, _ := x.Float64()
			t.Errorf("P9: Solve(%x, %x)[%d] = %x does not hold %x", s.a, s.b, i, l[i], f)
		}
	}
}

// checkSolve wants an answer that holds what some systems of numbers have as theirs, or ErrSure; it tells whether there is an answer.
func checkSolve(t *testing.T, n *numbers, s system, times int) bool {
	t.Helper()
	l, err := enclose.Solve(s.a, s.b)
	if err != nil {
		if err != enclose.ErrSure || l != nil {
			t.Errorf("P9: Solve(%x, %x) = %x, %v", s.a, s.b, l, err)
		}
		return false
	}
	if len(l) != len(s.b) {
		t.Fatalf("P9: Solve(%x, %x) = %x: so many?", s.a, s.b, l)
	}
	for _, x := range l {
		again, err := enclose.Make(x.Lo(), x.Hi())
		if err != nil || !hasEnds(again, x.Lo(), x.Hi()) {
			t.Errorf("P9: Solve(%x, %x) = %x: no interval: %v", s.a, s.b, l, err)
		}
	}
	for range times {
		rows, right := n.heldSystem(s)
		checkHeld(t, s, l, rows, right)
	}
	return true
}

// checkSure wants what P10 promises.
func checkSure(t *testing.T, s system) {
	t.Helper()
	if !checkSolve(t, &numbers{1}, s, 1) { // of intervals of one number each there is but one system
		t.Fatalf("P10: Solve(%x, %x) has no answer", s.a, s.b)
	}
	l, _ := enclose.Solve(s.a, s.b)
	greatest := 0.0
	for _, x := range l {
		greatest = max(greatest, math.Abs(x.Lo()), math.Abs(x.Hi()))
	}
	for i, x := range l {
		if exactly("-", x.Hi(), x.Lo()).Cmp(exactly("*", greatest, 0x1p-30)) > 0 {
			t.Errorf("P10: Solve(%x, %x)[%d] is too wide: %x", s.a, s.b, i, l)
		}
	}
}

func TestSolveAnswers(t *testing.T) {
	for _, c := range []struct {
		rows      [][]float64
		right, xs []float64
	}{
		{[][]float64{{4, 1}, {1, 4}}, []float64{6, 9}, []float64{1, 2}},
		{[][]float64{{4}}, []float64{2}, []float64{0.5}},
		{[][]float64{{-0x1p-30}}, []float64{0x1p30}, []float64{-0x1p60}},
		{[][]float64{{0x1p30}}, []float64{0x1p-30}, []float64{0x1p-60}},
		{[][]float64{{1, 0}, {0, 1}}, []float64{5, -7}, []float64{5, -7}},
		{[][]float64{{2, 0, 0, 0}, {0, 4, 0, 0}, {0, 0, -8, 0}, {0, 0, 0, 1}}, []float64{2, 2, 2, 2}, []float64{1, 0.5, -0.25, 2}},
		{[][]float64{{4, minusZero}, {minusZero, 4}}, []float64{minusZero, minusZero}, []float64{0, 0}},
	} {
		s := pointSystem(t, c.rows, c.right)
		checkSure(t, s)
		l, _ := enclose.Solve(s.a, s.b)
		for i, x := range c.xs {
			if l[i].Lo() > x || l[i].Hi() < x {
				t.Errorf("P9: Solve(%v, %v)[%d] = %x, which should hold %v", c.rows, c.right, i, l[i], x)
			}
		}
	}
	if l, err := enclose.Solve([][]enclose.Interval{{made(t, -1, 1)}}, []enclose.Interval{made(t, 1, 1)}); l != nil || err != enclose.ErrSure {
		t.Errorf("P9: Solve({{[-1, 1]}}, {[1, 1]}) = %x, %v", l, err)
	}
}

func TestSolveHoldsWhatSolves(t *testing.T) {
	n := &numbers{37}
	answers := [5]int{}
	for range 6000 {
		s := n.system(t)
		if checkSolve(t, n, s, 6) {
			answers[len(s.b)]++
		}
	}
	for size, count := range answers[1:] {
		if count < 150 {
			t.Errorf("of %d intervals only %d systems have an answer: there is nothing to hold against", size+1, count)
		}
	}
}

// TestSolveSmallNumbers goes through all squares of some whole numbers: what has no determinant has no answer, and else a pivot is to be found, wherever it stands.
func TestSolveSmallNumbers(t *testing.T) {
	for _, c := range []struct{ size, most int }{{1, 4}, {2, 4}, {3, 1}} {
		wide := 2*c.most + 1
		squares := 1
		for range c.size * c.size {
			squares *= wide
		}
		for k := range squares {
			rows, right := make([][]float64, c.size), make([]float64, c.size)
			for i := range rows {
				right[i] = float64(i + 1)
				for range rows {
					rows[i] = append(rows[i], float64(k%wide-c.most))
					k /= wide
				}
			}
			s := pointSystem(t, rows, right)
			exact, exactRight := (&numbers{1}).heldSystem(s)
			there := cramer(exact, exactRight) != nil
			if checkSolve(t, &numbers{1}, s, 1) != there {
				t.Errorf("P9: Solve(%v, %v) has an answer or none: %v", rows, right, !there)
			}
		}
	}
}

// dominantRow is a row as P10 has it: the number on the diagonal is as small as it may be, or greater.
func (n *numbers) dominantRow(size, at int) []float64 {
	row := make([]float64, size)
	top := n.under(56) - 29
	sum := new(big.Rat)
	for j := range row {
		if j != at && n.under(4) > 0 {
			row[j] = n.amount(-30, top)
			sum.Add(sum, rational(math.Abs(row[j])))
		}
	}
	four, _ := cut(sum.Mul(sum, big.NewRat(4, 1)), big.ToPositiveInf)
	greater := []float64{four, four, 0x1p30, max(four, math.Abs(n.amount(-30, 30)))}[n.under(4)]
	if greater == 0 {
		greater = 0x1p-30
	}
	row[at] = greater
	if n.under(2) == 0 {
		row[at] = -greater
	}
	return row
}

func TestSolveDominant(t *testing.T) {
	n := &numbers{41}
	for round := range 6000 {
		size := 1 + round%4
		rows, right := make([][]float64, size), make([]float64, size)
		zeros := n.under(4)
		for i := range rows {
			rows[i] = n.dominantRow(size, i)
			if n.under(4) >= zeros {
				right[i] = n.amount(-30, 30)
			}
		}
		checkSure(t, pointSystem(t, rows, right))
	}
}

func TestSolveScales(t *testing.T) {
	scales := []float64{0x1p-28, 0x1p-14, 1, 0x1p14, 0x1p27}
	for k := range 125 {
		rows := [][]float64{{4, 0.5, -0.5}, {-0.25, -4, 0.75}, {0.5, 0.5, 4}}
		right := []float64{3, 0, -5}
		for i := range rows {
			for j := range rows[i] {
				rows[i][j] *= scales[k%5]
			}
			right[i] = max(-0x1p30, min(0x1p30, right[i]*scales[k%5]))
			k /= 5
		}
		checkSure(t, pointSystem(t, rows, right))
	}
	checkSure(t, pointSystem(t, [][]float64{{0x1p-12, 0}, {0x3p-12, 0x1p30}}, []float64{0x1p-12, 0x1p30}))
	checkSure(t, pointSystem(t, [][]float64{{0x1p30, 0x3p-12}, {0, 0x1p-12}}, []float64{0x1p30, 0x1p-12}))
}

func TestSolveZeros(t *testing.T) {
	n := &numbers{43}
	for round := range 400 {
		size := 1 + round%4
		rows := make([][]float64, size)
		for i := range rows {
			rows[i] = n.dominantRow(size, i)
		}
		s := pointSystem(t, rows, make([]float64, size))
		l, err := enclose.Solve(s.a, s.b)
		if err != nil || len(l) != size {
			t.Fatalf("P10: Solve(%x, zeros): %v", rows, err)
		}
		for _, x := range l {
			if !hasEnds(x, 0, 0) {
				t.Errorf("P10: Solve(%x, zeros) = %x", rows, l)
			}
		}
	}
}

func TestSolveNotSure(t *testing.T) {
	zero, wide := made(t, 0, 0), made(t, -0x1p30, 0x1p30)
	one, two := made(t, 1, 1), made(t, 2, 2)
	near := made(t, 1, 2)
	third := made(t, 1.0/3, 1.0/3)
	type row = []enclose.Interval
	for _, a := range [][]row{
		{{zero}},
		{{wide}},
		{{made(t, 0, 1)}},
		{{made(t, -1, 0)}},
		{{one, two}, {two, made(t, 4, 4)}},
		{{zero, zero}, {zero, one}},
		{{one, one}, {one, near}},
		{{near, near}, {near, near}},
		{{near, one}, {one, made(t, 0.5, 1)}},
		{{third, one}, {third, one}},
		{{one, one, one}, {one, one, one}, {one, two, made(t, 3, 3)}},
		{{one, two, third}, {two, one, third}, {made(t, 3, 3), made(t, 3, 3), made(t, 2.0/3, 2.0/3)}},
		{{one, zero, zero, zero}, {zero, one, zero, zero}, {zero, zero, one, zero}, {zero, zero, zero, wide}},
		{{wide, wide, wide, wide}, {wide, wide, wide, wide}, {wide, wide, wide, wide}, {wide, wide, wide, wide}},
	} {
		for _, x := range []enclose.Interval{zero, one, wide} {
			b := slices.Repeat([]enclose.Interval{x}, len(a))
			if l, err := enclose.Solve(a, b); l != nil || err != enclose.ErrSure {
				t.Errorf("P9: Solve(%x, %x) = %x, %v, want ErrSure", a, b, l, err)
			}
		}
	}
}

// TestSolveFarEnds has systems in whose reckoning there are ends that are no plain floats any more, and the same ones with the other sign on the right side.
func TestSolveFarEnds(t *testing.T) {
	const small, great = 0x1p-30, 0x1p30
	zero := enclose.Interval{}
	up, down := made(t, small, great), made(t, -great, -small)
	point := func(x float64) enclose.Interval { return made(t, x, x) }
	type row = []enclose.Interval
	n := &numbers{47}
	for _, c := range []struct {
		system
		sure bool
	}{
		// Ends that are too near to 0 leave the others as they are.
		{system{[]row{{up, zero, zero, point(0.625)}, {made(t, 1.25*small, great), zero, zero, down}, {made(t, 1.5*small, great), down, zero, zero}, {made(t, small, 0.75*great), zero, down, zero}}, row{zero, point(small), zero, zero}}, true},
		{system{[]row{{down, made(t, -1.5*small, 0), zero, zero}, {zero, zero, made(t, 0, great), point(3 * small)}, {made(t, 1.25*small, great), down, zero, zero}, {down, zero, up, down}}, row{zero, point(small), zero, zero}}, true},
		// Ends that are too far from 0 may leave nothing to be sure of, but there is no other error.
		{system{[]row{{made(t, 0, great), point(1.5 * small), up, zero}, {made(t, -0.625*great, -small), point(0.75 * great), zero, zero}, {made(t, 0x1.0ab999ee88ee9p-30, great), point(-1.25 * small), zero, zero}, {made(t, -great, 0), point(-1.5 * small), zero, made(t, small, great/2)}}, row{made(t, 0, 0x1p-19), made(t, 0, 0.625*great), point(-small), made(t, 0, small)}}, false},
		{system{[]row{{zero, made(t, 1.5*small, great), zero, point(great)}, {made(t, 0x1.1781793702028p-30, great), point(great), zero, made(t, 1.25*small, great)}, {made(t, 0x1.d149cfb010f39p-30, great), point(-great), up, zero}, {zero, made(t, small, 0.625*great), zero, made(t, -great/4, 0)}}, row{made(t, 0, small), made(t, 0, great), point(-great), made(t, 0, 1.25*small)}}, false},
	} {
		for range 2 {
			if !checkSolve(t, n, c.system, 1000) && c.sure {
				t.Errorf("P9: Solve(%x, %x) is not sure for the sake of an end near 0", c.a, c.b)
			}
			for i, x := range c.b {
				c.b[i] = x.Neg()
			}
		}
	}
}

func TestSolveShape(t *testing.T) {
	one := made(t, 1, 1)
	far := made(t, 0x1p31, 0x1p31)
	square := func(rows, columns int, x enclose.Interval) [][]enclose.Interval {
		a := make([][]enclose.Interval, rows)
		for i := range a {
			a[i] = slices.Repeat([]enclose.Interval{x}, columns)
		}
		return a
	}
	refused := func(a [][]enclose.Interval, b []enclose.Interval) {
		t.Helper()
		if l, err := enclose.Solve(a, b); l != nil || err != enclose.ErrShape {
			t.Errorf("P9: Solve(%x, %x) = %x, %v, want ErrShape", a, b, l, err)
		}
	}
	for _, x := range []enclose.Interval{one, far, {}} {
		for rows := range 7 {
			for columns := range 7 {
				for right := range 7 {
					if rows != right || columns != right || right == 0 || right > 4 {
						refused(square(rows, columns, x), slices.Repeat([]enclose.Interval{x}, right))
					}
				}
			}
		}
		for size := 1; size <= 4; size++ {
			for i := range size {
				for _, columns := range []int{0, size - 1, size + 1, 100} {
					a := square(size, size, x)
					a[i] = slices.Repeat([]enclose.Interval{x}, columns)
					refused(a, slices.Repeat([]enclose.Interval{x}, size))
				}
				a := square(size, size, x)
				a[i] = nil
				refused(a, slices.Repeat([]enclose.Interval{x}, size))
			}
		}
	}
	refused(nil, nil)
	refused(nil, []enclose.Interval{one})
	refused([][]enclose.Interval{{one}}, nil)
	refused(make([][]enclose.Interval, 2, 4), make([]enclose.Interval, 2))
}

func TestSolveRange(t *testing.T) {
	far := []float64{below(0x1p-30), above(0x1p30), 0x1p-31, 0x1p31, 0x1p-900, 0x1p900}
	edges := []float64{0, 0x1p-30, above(0x1p-30), 1, below(0x1p30), 0x1p30}
	var inside, outside []enclose.Interval
	for _, x := range edges {
		inside = append(inside, made(t, x, x), made(t, -x, -x), made(t, -x, x), made(t, 0, x), made(t, -x, 0))
	}
	for _, x := range far {
		outside = append(outside, made(t, x, x), made(t, -x, -x), made(t, -x, 1), made(t, -1, x), made(t, 0, x), made(t, -x, 0))
	}
	asked := func(size, at int, x enclose.Interval) ([]enclose.Interval, error) {
		rows := make([][]enclose.Interval, size)
		all := slices.Repeat([]enclose.Interval{made(t, 1, 1)}, size*size+size)
		all[at] = x
		for i := range rows {
			rows[i] = all[i*size : (i+1)*size]
		}
		return enclose.Solve(rows, all[size*size:])
	}
	for size := 1; size <= 4; size++ {
		for at := range size*size + size {
			for _, x := range inside {
				if _, err := asked(size, at, x); err != nil && err != enclose.ErrSure {
					t.Errorf("P9: with %x at %d of %d: %v", x, at, size, err)
				}
			}
			for _, x := range outside {
				if l, err := asked(size, at, x); l != nil || err != enclose.ErrRange {
					t.Errorf("P9: with %x at %d of %d: %x, %v, want ErrRange", x, at, size, l, err)
				}
			}
		}
	}
}

func (s system) clone() system {
	c := system{nil, slices.Clone(s.b)}
	for _, row := range s.a {
		c.a = append(c.a, slices.Clone(row))
	}
	return c
}

func (s system) equal(other system) bool {
	return slices.EqualFunc(s.a, other.a, equalPieces) && equalPieces(s.b, other.b)
}

func TestSolveKeepsNothing(t *testing.T) {
	n := &numbers{53}
	for range 2000 {
		s := n.system(t)
		for i := range s.a { // with room behind them that is the caller's
			s.a[i] = slices.Grow(s.a[i], 8)
		}
		s.b = slices.Grow(s.b, 8)
		kept := s.clone()
		l, err := enclose.Solve(s.a, s.b)
		want := slices.Clone(l)
		full := l[:cap(l)]
		for i := range full {
			full[i] = made(t, 7, 7)
		}
		behind := s.b[:cap(s.b)]
		for _, row := range s.a {
			behind = append(behind, row[len(row):cap(row)]...)
		}
		for _, x := range behind[len(s.b):] {
			if x != (enclose.Interval{}) {
				t.Fatalf("P1: Solve writes behind its arguments")
			}
		}
		again, err2 := enclose.Solve(s.a, s.b)
		if !s.equal(kept) || err != err2 || !equalPieces(again, want) {
			t.Fatalf("P1: Solve(%x, %x) has changed its arguments to %x, or its answer from %x to %x", kept.a, kept.b, s, want, again)
		}
	}
}

// TestSolveSharedRows hands in rows that lie one upon the other.
func TestSolveSharedRows(t *testing.T) {
	one, four := made(t, 1, 1), made(t, 4, 4)
	long := []enclose.Interval{four, one, four}
	a := [][]enclose.Interval{long[:2], long[1:]}
	apart := system{a, long[:2]}.clone()
	l, err := enclose.Solve(a, long[:2])
	want, wantErr := enclose.Solve(apart.a, apart.b)
	if err != nil || wantErr != nil || !equalPieces(l, want) || !equalPieces(long, []enclose.Interval{four, one, four}) {
		t.Errorf("P1: rows that share their memory: %x, %v, want %x, %v; %x", l, err, want, wantErr, long)
	}
	if l, err := enclose.Solve([][]enclose.Interval{long[:2], long[:2]}, long[:2]); l != nil || err != enclose.ErrSure {
		t.Errorf("P9: one row two times: %x, %v", l, err)
	}
}
