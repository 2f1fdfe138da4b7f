package enclose_test

import (
	"math"
	"math/big"
	"slices"
	"testing"

	"enclose/enclose"
)

// polynomial has one to nine numbers, most of them small ones, so that its values are seldom out of range.
func (n *numbers) polynomial() []float64 {
	p := make([]float64, 1+n.under(9))
	wild := n.under(4) == 0
	for k := range p {
		p[k] = float64(n.under(17)-8) / 4
		if wild || n.under(4) == 0 {
			p[k] = n.float()
		}
	}
	return p
}

// smallInterval has ends near 0.
func (n *numbers) smallInterval(t *testing.T) enclose.Interval {
	lo, hi := float64(n.under(65)-32)/8, float64(n.under(65)-32)/8
	if n.under(2) == 0 {
		lo /= 3
	}
	return made(t, min(lo, hi), max(lo, hi))
}

// values is Horner's way with exact reckoning at each step; else the operation that is out of range.
func values(t *testing.T, p []float64, x enclose.Interval) (r enclose.Interval, failed string) {
	t.Helper()
	k := len(p) - 1
	r = made(t, p[k], p[k])
	for k--; k >= 0; k-- {
		for _, step := range []struct {
			op string
			by enclose.Interval
		}{{"*", x}, {"+", made(t, p[k], p[k])}} {
			lo, hi, there := least(step.op, r, step.by)
			if !there {
				return enclose.Interval{}, step.op
			}
			r = made(t, lo, hi)
		}
	}
	return r, ""
}

// checkEval holds one answer of Eval against exact reckoning.
func checkEval(t *testing.T, p []float64, x enclose.Interval) {
	t.Helper()
	kept := slices.Clone(p)
	r, err := enclose.Eval(p, x)
	want, failed := values(t, p, x)
	if failed != "" {
		if !isOpError(err, failed, enclose.ErrRange) || !hasEnds(r, 0, 0) {
			t.Errorf("P7: Eval(%x, %x) = %x, %v, want ErrRange of %s", p, x, r, err, failed)
		}
	} else if err != nil || !hasEnds(r, want.Lo(), want.Hi()) {
		t.Errorf("P7: Eval(%x, %x) = %x, %v, want %x", p, x, r, err, want)
	}
	if !slices.EqualFunc(p, kept, sameBits) {
		t.Errorf("P1: Eval has changed %x to %x", kept, p)
	}
}

func TestEvalAnswers(t *testing.T) {
	for _, c := range []struct {
		p                []float64
		xlo, xhi, lo, hi float64
	}{
		{[]float64{5}, 1, 2, 5, 5},
		{[]float64{0.1}, -0x1p900, 0x1p900, 0.1, 0.1},
		{[]float64{0x1p900}, 0x1p-900, 0x1p900, 0x1p900, 0x1p900},
		{[]float64{minusZero}, 1, 2, 0, 0},
		{[]float64{minusZero, minusZero}, -1, 2, 0, 0},
		{[]float64{1, 2}, 3, 4, 7, 9},
		{[]float64{1, 2, 3}, 10, 10, 321, 321},
		{[]float64{-2, 0, 1}, -1, 2, -4, 2},
		{[]float64{0, -1, 1}, 0, 1, -1, 0},
		{[]float64{0, 0.1}, 0.1, 0.1, 0x1.47ae147ae147bp-07, 0x1.47ae147ae147cp-07},
		{[]float64{0, 0, 0x1p-900}, 0, 0, 0, 0},
		{[]float64{0, 0, 0, 0, 0, 0, 0, 0, 0x1p-900}, 0x1p225, 0x1p225, 0x1p900, 0x1p900},
		{[]float64{1, 1, 1, 1, 1, 1, 1, 1, 1}, 2, 2, 511, 511},
		{[]float64{0x1p-900, 1}, 1, 1, 1, above(1)},
	} {
		r, err := enclose.Eval(c.p, made(t, c.xlo, c.xhi))
		if err != nil || !hasEnds(r, c.lo, c.hi) {
			t.Errorf("P7: Eval(%x, [%x, %x]) = %x, %v, want [%x, %x]", c.p, c.xlo, c.xhi, r, err, c.lo, c.hi)
		}
	}
}

func TestEvalStepByStep(t *testing.T) {
	n := &numbers{29}
	for range 3000 {
		checkEval(t, n.polynomial(), n.smallInterval(t))
		checkEval(t, n.polynomial(), n.interval(t))
	}
}

func TestEvalOperationErrors(t *testing.T) {
	for _, c := range []struct {
		p        []float64
		xlo, xhi float64
		op       string
	}{
		{[]float64{0, 0x1p900}, 2, 2, "*"},
		{[]float64{0, -0x1p900, 0}, -2, 0, "*"},
		{[]float64{0, -0x1p900, 0}, -1, 0, ""},
		{[]float64{0, 0x1p-900}, 0.5, 0.5, "*"},
		{[]float64{1, 0x1p-900}, 0.5, 2, "*"},
		{[]float64{0x1p900, 0x1p900}, 1, 1, "+"},
		{[]float64{1, 0x1p900}, -1, -1, ""},
		{[]float64{-0x1p-900, 1}, above(0x1p-900), 1, "+"},
		{[]float64{0, 0, 0x1p800}, 0x1p100, 0x1p100, "*"},
		{[]float64{0, 0x1p900, 0x1p900, 0}, 1, 1, "+"},
	} {
		if _, failed := values(t, c.p, made(t, c.xlo, c.xhi)); failed != c.op {
			t.Errorf("the test itself: %x of [%x, %x] fails at %q", c.p, c.xlo, c.xhi, failed)
		}
		checkEval(t, c.p, made(t, c.xlo, c.xhi))
	}
}

// wrongNumbers are no polynomials, each with the error that it has.
func wrongNumbers() []struct {
	p   []float64
	err error
} {
	type wrong = struct {
		p   []float64
		err error
	}
	l := []wrong{
		{nil, enclose.ErrShape},
		{[]float64{}, enclose.ErrShape},
		{make([]float64, 0, 5), enclose.ErrShape},
		{make([]float64, 10), enclose.ErrShape},
		{make([]float64, 1000), enclose.ErrShape},
		{[]float64{1, 1, 1, 1, math.NaN(), 1, 1, 1, 1, 1}, enclose.ErrShape},
	}
	for _, bad := range notPlain() {
		for length := 1; length <= 9; length++ {
			for k := range length {
				p := make([]float64, length)
				p[k] = bad
				l = append(l, wrong{p, enclose.ErrFloat})
			}
		}
	}
	return l
}

func TestEvalWrongNumbers(t *testing.T) {
	for _, c := range wrongNumbers() {
		for _, x := range []enclose.Interval{{}, made(t, 1, 2), made(t, -0x1p900, 0x1p900)} {
			if r, err := enclose.Eval(c.p, x); err != c.err || !hasEnds(r, 0, 0) {
				t.Errorf("P7: Eval(%x, %x) = %x, %v, want %v", c.p, x, r, err, c.err)
			}
		}
	}
	// What is wrong with a number comes ahead of what is wrong with an operation.
	if _, err := enclose.Eval([]float64{math.NaN(), 0x1p900}, made(t, 2, 2)); err != enclose.ErrFloat {
		t.Errorf("P7: Eval of a number that is not plain: %v", err)
	}
}

// middle is the float next to the middle, the even one of two.
func middle(x enclose.Interval) float64 {
	sum := exactly("+", x.Lo(), x.Hi())
	m, _ := sum.Quo(sum, big.NewRat(2, 1)).Float64()
	return m
}

// pieces is what Roots is to go through, as a list that is worked off from its end on.
func pieces(t *testing.T, p []float64, x enclose.Interval, depth int) []enclose.Interval {
	t.Helper()
	type piece struct {
		x     enclose.Interval
		depth int
	}
	found := []enclose.Interval{}
	for todo := []piece{{x, depth}}; len(todo) > 0; {
		next := todo[len(todo)-1]
		todo = todo[:len(todo)-1]
		lo, hi, m := next.x.Lo(), next.x.Hi(), middle(next.x)
		r, failed := values(t, p, next.x)
		_, err := enclose.Make(m, m)
		switch {
		case failed == "" && (r.Lo() > 0 || r.Hi() < 0):
		case next.depth == 0 || err != nil || lo == m || hi == m:
			found = append(found, next.x)
		default:
			todo = append(todo, piece{made(t, m, hi), next.depth - 1}, piece{made(t, lo, m), next.depth - 1})
		}
	}
	return found
}

type loop = func(yield func(enclose.Interval) bool)

// gone goes through a loop; it leaves it behind so many, or never, if that is 0.
func gone(l loop, stop int) []enclose.Interval {
	got := []enclose.Interval{}
	for a := range l {
		got = append(got, a)
		if len(got) == stop {
			break
		}
	}
	return got
}

// equalPieces compares to the bit.
func equalPieces(a, b []enclose.Interval) bool {
	return slices.EqualFunc(a, b, func(x, y enclose.Interval) bool { return hasEnds(x, y.Lo(), y.Hi()) })
}

// looped is what Roots answers, where it has no error.
func looped(t *testing.T, p []float64, x enclose.Interval, depth int) loop {
	t.Helper()
	l, err := enclose.Roots(p, x, depth)
	if err != nil || l == nil {
		t.Fatalf("P8: Roots(%x, %x, %d): %v", p, x, depth, err)
	}
	return l
}

// checkRoots holds a loop against the pieces that are wanted: whole, left early, and whole again.
func checkRoots(t *testing.T, p []float64, x enclose.Interval, depth int, want []enclose.Interval) {
	t.Helper()
	l := looped(t, p, x, depth)
	for _, stop := range []int{0, 1, 2, len(want) / 2, len(want), 0} {
		wanted := want
		if stop > 0 && stop < len(want) {
			wanted = want[:stop]
		}
		if got := gone(l, stop); !equalPieces(got, wanted) {
			t.Errorf("P8: Roots(%x, %x, %d), left behind %d: %x, want %x", p, x, depth, stop, got, wanted)
		}
	}
}

func TestRootsAnswers(t *testing.T) {
	const most = 0x1p900
	for _, c := range []struct {
		p        []float64
		xlo, xhi float64
		depth    int
		ends     []float64
	}{
		{[]float64{-2, 0, 1}, 0, 2, 3, []float64{1.25, 1.5}},
		{[]float64{0, 1}, -1, 1, 2, []float64{-0.5, 0, 0, 0.5}},
		{[]float64{0, 1}, -1, 1, 0, []float64{-1, 1}},
		{[]float64{0, 1}, -1, 1, 1, []float64{-1, 0, 0, 1}},
		{[]float64{5}, -1, 1, 0, nil},
		{[]float64{5}, -1, 1, 8, nil},
		{[]float64{minusZero}, 1, 3, 1, []float64{1, 2, 2, 3}},
		{[]float64{1, 0, 1}, -2, 2, 8, nil},
		{[]float64{-1, 1}, 1, 1, 8, []float64{1, 1}},
		{[]float64{-1, 1}, 2, 2, 8, nil},
		{[]float64{0}, 0, 0, 8, []float64{0, 0}},
		// Ends that are neighbours, and ones with floats between them: the middle goes to the even one.
		{[]float64{0}, 1, above(1), 8, []float64{1, above(1)}},
		{[]float64{0}, above(1), above(above(1)), 8, []float64{above(1), above(above(1))}},
		{[]float64{0}, below(1), 1, 8, []float64{below(1), 1}},
		{[]float64{0}, below(1), above(1), 8, []float64{below(1), 1, 1, above(1)}},
		{[]float64{0}, 1, 0x1.0000000000003p0, 8, []float64{1, 0x1.0000000000001p0, 0x1.0000000000001p0, 0x1.0000000000002p0, 0x1.0000000000002p0, 0x1.0000000000003p0}},
		{[]float64{0}, 1, 0x1.0000000000003p0, 1, []float64{1, 0x1.0000000000002p0, 0x1.0000000000002p0, 0x1.0000000000003p0}},
		// A middle that is not plain.
		{[]float64{0, 1}, 0, 0x1p-900, 8, []float64{0, 0x1p-900}},
		{[]float64{0, 1}, 0, 0x1.8p-900, 8, []float64{0, 0x1.8p-900}},
		{[]float64{0}, 0, 0x1p-899, 2, []float64{0, 0x1p-900, 0x1p-900, 0x1.8p-900, 0x1.8p-900, 0x1p-899}},
		{[]float64{0, 1}, -0x1p-900, 0x1.8p-900, 8, []float64{-0x1p-900, 0x1.8p-900}},
		{[]float64{0, 1}, -0x1p-900, 0x1p-900, 8, []float64{-0x1p-900, 0, 0, 0x1p-900}},
		// A middle with digits that are lost where hi - lo is rounded first.
		{[]float64{0}, -1, above(1), 1, []float64{-1, 0x1p-53, 0x1p-53, above(1)}},
		{[]float64{0}, -1, 0x1p-60, 1, []float64{-1, -0.5, -0.5, 0x1p-60}},
		// The greatest ends: their sum would be no plain float.
		{[]float64{0}, most, most, 8, []float64{most, most}},
		{[]float64{0}, most / 2, most, 1, []float64{most / 2, most * 0.75, most * 0.75, most}},
		{[]float64{0}, -most, -most / 2, 1, []float64{-most, -most * 0.75, -most * 0.75, -most / 2}},
		{[]float64{0}, -most, most, 1, []float64{-most, 0, 0, most}},
		// Values out of range are not known to be without 0.
		{[]float64{1, most}, 1, 3, 1, []float64{1, 2, 2, 3}},
		{[]float64{1, most}, 0.25, 4, 0, []float64{0.25, 4}},
		{[]float64{1, most}, 0.25, 0.5, 0, nil},
	} {
		want := []enclose.Interval{}
		for i := 0; i < len(c.ends); i += 2 {
			want = append(want, made(t, c.ends[i], c.ends[i+1]))
		}
		checkRoots(t, c.p, made(t, c.xlo, c.xhi), c.depth, want)
	}
}

func TestRootsPieceByPiece(t *testing.T) {
	n := &numbers{31}
	for range 400 {
		p, x, depth := n.polynomial(), n.smallInterval(t), n.under(9)
		checkRoots(t, p, x, depth, pieces(t, p, x, depth))
	}
	for range 200 {
		p, x, depth := n.polynomial(), n.interval(t), n.under(6)
		checkRoots(t, p, x, depth, pieces(t, p, x, depth))
	}
}

func TestRootsAllPieces(t *testing.T) {
	for depth := 0; depth <= 8; depth++ {
		got := gone(looped(t, []float64{0}, made(t, 0, 256), depth), 0)
		if len(got) != 1<<depth {
			t.Fatalf("P8: of depth %d there are %d pieces", depth, len(got))
		}
		wide := 256 / float64(len(got))
		for i, a := range got {
			if !hasEnds(a, float64(i)*wide, float64(i+1)*wide) {
				t.Errorf("P8: of depth %d piece %d is %x", depth, i, a)
			}
		}
	}
}

func TestRootsLeavesNoRootOut(t *testing.T) {
	p := []float64{-6, 11, -6, 1} // of 1, 2 and 3
	for depth := 0; depth <= 8; depth++ {
		got := gone(looped(t, p, made(t, -7, 7.5), depth), 0)
		for _, root := range []float64{1, 2, 3} {
			if !slices.ContainsFunc(got, func(a enclose.Interval) bool { return a.Lo() <= root && root <= a.Hi() }) {
				t.Errorf("P8: of depth %d no piece holds %v: %v", depth, root, got)
			}
		}
	}
}

func TestRootsErrors(t *testing.T) {
	x := made(t, 0, 1)
	for _, c := range wrongNumbers() {
		for _, depth := range []int{0, 3, 8, -1, 9} {
			if l, err := enclose.Roots(c.p, x, depth); l != nil || err != c.err {
				t.Errorf("P8: Roots(%x, .., %d): %v, want %v", c.p, depth, err, c.err)
			}
		}
	}
	for _, depth := range []int{-1, 9, 10, 1 << 8, 1<<8 + 3, -1 << 8, 1 << 32, 1<<32 + 3, math.MinInt, math.MaxInt} {
		for _, p := range [][]float64{{1}, {0, 1}, {0x1p900, 0x1p900}} {
			if l, err := enclose.Roots(p, x, depth); l != nil || err != enclose.ErrShape {
				t.Errorf("P8: Roots(%x, .., %d): %v, want ErrShape", p, depth, err)
			}
		}
	}
	// An error of an operation is none of Roots.
	if l, err := enclose.Roots([]float64{0, 0x1p900}, made(t, 2, 2), 3); l == nil || err != nil {
		t.Errorf("P8: Roots where the values are out of range: %v", err)
	}
}

func TestRootsKeepsNoList(t *testing.T) {
	p := []float64{-2, 0, 1}
	l := looped(t, p, made(t, 0, 2), 3)
	if !slices.Equal(p, []float64{-2, 0, 1}) {
		t.Errorf("P1: Roots has changed its list to %v", p)
	}
	want := []enclose.Interval{made(t, 1.25, 1.5)}
	for _, other := range []float64{7, 0, math.NaN()} {
		for k := range p {
			p[k] = other
		}
		if got := gone(l, 0); !equalPieces(got, want) {
			t.Errorf("P1: with the caller's list of %v: %x", other, got)
		}
		if p[0] == p[0] && !slices.Equal(p, []float64{other, other, other}) {
			t.Errorf("P1: the loop has changed the list to %v", p)
		}
	}
}

func TestRootsWithinOneAnother(t *testing.T) {
	l := looped(t, []float64{0}, made(t, 0, 1), 2)
	all := gone(l, 0)
	outer := 0
	for a := range l {
		if got := gone(l, 0); !equalPieces(got, all) || !equalPieces([]enclose.Interval{a}, all[outer:outer+1]) {
			t.Errorf("P8: a loop within a loop: %x, %x", a, got)
		}
		outer++
	}
	if outer != len(all) {
		t.Errorf("P8: %d pieces, want %d", outer, len(all))
	}
}

func TestRootsBodyPanics(t *testing.T) {
	l := looped(t, []float64{0}, made(t, 0, 1), 2)
	all := gone(l, 0)
	for stop := range all {
		seen := 0
		func() {
			defer func() {
				if recover() != "the body's own" {
					t.Errorf("P1: the body's panic does not come through")
				}
			}()
			for range l {
				if seen == stop {
					panic("the body's own")
				}
				seen++
			}
		}()
		if got := gone(l, 0); seen != stop || !equalPieces(got, all) {
			t.Errorf("P8: behind a panic at %d: %x", stop, got)
		}
	}
}

func TestRootsCalledByHand(t *testing.T) {
	l := looped(t, []float64{0}, made(t, 0, 1), 3)
	for stop := 1; stop <= 8; stop++ {
		calls := 0
		l(func(enclose.Interval) bool {
			calls++
			return calls < stop
		})
		if calls != stop {
			t.Errorf("P8: a body that ends at %d has been called %d times", stop, calls)
		}
	}
	l(nil) // P1: no call panics
}
