package enclose_test

import (
	"math"
	"math/big"
	"testing"

	"enclose/enclose"
)

func TestWorkedAnswers(t *testing.T) {
	for _, c := range []struct {
		op                         string
		alo, ahi, blo, bhi, lo, hi float64
	}{
		{"+", 1, 2, 3, 4, 4, 6},
		{"+", 0.1, 0.1, 0.1, 0.2, 0.2, 0x1.3333333333334p-02},
		{"+", 1, 1, 0x1p-900, 0x1p-900, 1, above(1)},
		{"+", 1, 1, -0x1p-900, -0x1p-900, below(1), 1},
		{"+", -1, -1, 0x1p-900, 0x1p-900, -1, -below(1)},
		{"-", 1, 1, 1, 1, 0, 0},
		{"-", 0, 0, 0, 0, 0, 0},
		{"-", 1, 2, 3, 5, -4, -1},
		{"-", 0x1p900, 0x1p900, 1, 1, below(0x1p900), 0x1p900},
		{"*", -2, 3, -2, 3, -6, 9},
		{"*", -3, -2, 0, 0, 0, 0},
		{"*", 0, 1, 0x1p-800, 1, 0, 1},
		{"*", -0x1p-800, 1, -0x1p-800, 1, -0x1p-800, 1},
		{"*", 0.1, 0.1, 0.1, 0.1, 0x1.47ae147ae147bp-07, 0x1.47ae147ae147cp-07},
		{"/", 1, 1, 3, 3, 0x1.5555555555555p-02, 0x1.5555555555556p-02},
		{"/", -1, -1, 3, 3, -0x1.5555555555556p-02, -0x1.5555555555555p-02},
		{"/", 1, 1, -3, -3, -0x1.5555555555556p-02, -0x1.5555555555555p-02},
		{"/", -1, -1, -3, -3, 0x1.5555555555555p-02, 0x1.5555555555556p-02},
		{"/", 0, 0, -3, -2, 0, 0},
		{"/", -6, 4, -2, -1, -4, 6},
	} {
		r, err := enclose.Apply(c.op, made(t, c.alo, c.ahi), made(t, c.blo, c.bhi))
		if err != nil || !hasEnds(r, c.lo, c.hi) {
			t.Errorf("P4: [%x, %x] %s [%x, %x] = %x, %v, want [%x, %x]", c.alo, c.ahi, c.op, c.blo, c.bhi, r, err, c.lo, c.hi)
		}
	}
}

func TestOutOfRange(t *testing.T) {
	for _, c := range []struct {
		op                 string
		alo, ahi, blo, bhi float64
		err                error
	}{
		{"+", 0x1p900, 0x1p900, 0x1p-900, 0x1p-900, enclose.ErrRange},
		{"+", -0x1p900, 1, -1, 1, enclose.ErrRange},
		{"+", above(0x1p-900), above(0x1p-900), -0x1p-900, -0x1p-900, enclose.ErrRange},
		{"-", 0x1p900, 0x1p900, -0x1p900, -0x1p900, enclose.ErrRange},
		{"-", 0x1p-900, 0x1p-900, above(0x1p-900), above(0x1p-900), enclose.ErrRange},
		{"*", 0x1p-800, 1, 0x1p-800, 1, enclose.ErrRange},
		{"*", -1, -0x1p-800, 0x1p-800, 1, enclose.ErrRange},
		{"*", 0, 0x1p-800, 0, 0x1p-800, enclose.ErrRange},
		{"*", 0, 0x1p-537, 0, 0x1p-537, enclose.ErrRange},
		{"*", 0, 0x1p-900, 0, 0x1p-900, enclose.ErrRange},
		{"*", -0x1p-900, 0, 0, 0x1p-900, enclose.ErrRange},
		{"*", -0x1p900, 1, 1, 0x1p900, enclose.ErrRange},
		{"*", 0x1p450, 0x1p450, 0x1p450, above(0x1p450), enclose.ErrRange},
		{"*", below(0x1p-450), 1, 0x1p-450, 1, enclose.ErrRange},
		{"/", 1, 2, -1, 1, enclose.ErrZero},
		{"/", 1, 2, 0, 1, enclose.ErrZero},
		{"/", 1, 2, -1, 0, enclose.ErrZero},
		{"/", 0, 0, 0, 0, enclose.ErrZero},
		{"/", 0x1p900, 0x1p900, -0x1p-900, 0x1p900, enclose.ErrZero},
		{"/", 0x1p900, 0x1p900, 0x1p-900, 0x1p900, enclose.ErrRange},
		{"/", 0x1p-900, 1, 1, 0x1p900, enclose.ErrRange},
		{"/", 0x1p-900, 1, -0x1p900, -1, enclose.ErrRange},
		{"/", -0x1p-900, 0, 0x1p900, 0x1p900, enclose.ErrRange},
		{"/", 0x1p-900, 0x1p-900, above(1), above(1), enclose.ErrRange},
		{"/", 0x1p900, 0x1p900, below(1), 1, enclose.ErrRange},
		{"/", 0x1p-900, 1, 0x1.3p174, 0x1.3p174, enclose.ErrRange}, // the nearest float is the smallest one, the next one down is 0
		{"/", -1, -0x1p-900, 0x1.3p174, 0x1.3p174, enclose.ErrRange},
		{"*", 0x1p-900, 1, 0x1.8p-175, 1, enclose.ErrRange},
	} {
		a, b := made(t, c.alo, c.ahi), made(t, c.blo, c.bhi)
		for _, m := range methods() {
			if m.op != c.op {
				continue
			}
			if r, err := m.do(a, b); !isOpError(err, c.op, c.err) || !hasEnds(r, 0, 0) {
				t.Errorf("P4: %x %s %x = %x, %v, want %v", a, c.op, b, r, err, c.err)
			}
		}
	}
}

// edgeFloats are plain floats by whose sums, products and quotients the edges are reached and just missed.
func edgeFloats() []float64 {
	l := []float64{0}
	for _, x := range []float64{
		0x1p-900, above(0x1p-900), 0x1.8p-900, 0x1p-899, 0x1.8p-175, 0x1.3p174, 0x1p-848, 0x1p-847, 0x1p-600, below(0x1p-450), 0x1p-450, above(0x1p-450),
		0x1p-60, 0x1p-53, 0.1, 1.0 / 3, below(1), 1, above(1), 1.5, 3, 0x1p53, 0x1p53 - 1,
		below(0x1p450), 0x1p450, above(0x1p450), 0x1p600, 0x1p847, 0x1p848, 0x1p899, below(0x1p900), 0x1p900,
	} {
		l = append(l, x, -x)
	}
	return l
}

func TestEdgesAgainstExact(t *testing.T) {
	for _, x := range edgeFloats() {
		for _, y := range edgeFloats() {
			for _, m := range methods() {
				agrees(t, m, made(t, x, x), made(t, y, y))
			}
		}
	}
}

func TestEdgeIntervalsAgainstExact(t *testing.T) {
	n, l := &numbers{11}, edgeFloats()
	pick := func() enclose.Interval {
		x, y := l[n.under(len(l))], l[n.under(len(l))]
		return made(t, min(x, y), max(x, y))
	}
	for range 10000 {
		a, b := pick(), pick()
		for _, m := range methods() {
			agrees(t, m, a, b)
		}
	}
}

func TestManyAgainstExact(t *testing.T) {
	n := &numbers{7}
	for range 20000 {
		a, b := n.interval(t), n.interval(t)
		for _, m := range methods() {
			agrees(t, m, a, b)
		}
	}
}

// between is some float that an interval holds.
func between(n *numbers, a enclose.Interval) float64 {
	part := float64(n.under(1001)) / 1000
	return min(max(a.Lo()+part*(a.Hi()-a.Lo()), a.Lo()), a.Hi())
}

func TestInnerNumbersAreHeld(t *testing.T) {
	n := &numbers{5}
	for range 5000 {
		a, b := n.interval(t), n.interval(t)
		x, y := between(n, a), between(n, b)
		for _, m := range methods() {
			r, err := m.do(a, b)
			if err != nil {
				continue
			}
			truth := exactly(m.op, x, y)
			if rational(r.Lo()).Cmp(truth) > 0 || rational(r.Hi()).Cmp(truth) < 0 {
				t.Errorf("P4: %x %s %x = %x does not hold that of %x and %x", a, m.op, b, r, x, y)
			}
		}
	}
}

func square(x float64) *big.Rat { return exactly("*", x, x) }

// checkRoot holds the ends of a root against the squares of floats.
func checkRoot(t *testing.T, a enclose.Interval) {
	t.Helper()
	r, err := a.Sqrt()
	if err != nil {
		t.Errorf("P4: the root of %x: %v", a, err)
		return
	}
	lo, hi := r.Lo(), r.Hi()
	if math.Signbit(lo) || math.Signbit(hi) {
		t.Errorf("P4: the root of %x = %x", a, r)
	}
	if square(lo).Cmp(rational(a.Lo())) > 0 || square(above(lo)).Cmp(rational(a.Lo())) <= 0 {
		t.Errorf("P4: the root of %x = %x: its lower end", a, r)
	}
	if square(hi).Cmp(rational(a.Hi())) < 0 || hi > 0 && square(below(hi)).Cmp(rational(a.Hi())) >= 0 {
		t.Errorf("P4: the root of %x = %x: its upper end", a, r)
	}
}

func TestSqrt(t *testing.T) {
	for _, c := range [][4]float64{
		{2, 4, 0x1.6a09e667f3bccp+00, 2}, {0, 0, 0, 0}, {0, 9, 0, 3}, {1, 1, 1, 1},
		{0x1p-900, 0x1p900, 0x1p-450, 0x1p450}, {above(1), above(1), 1, above(1)}, {below(1), below(1), below(1), 1},
	} {
		if r, err := made(t, c[0], c[1]).Sqrt(); err != nil || !hasEnds(r, c[2], c[3]) {
			t.Errorf("P4: the root of [%x, %x] = %x, %v, want [%x, %x]", c[0], c[1], r, err, c[2], c[3])
		}
	}
	for _, x := range edgeFloats() {
		x = math.Abs(x)
		checkRoot(t, made(t, x, x))
	}
	n := &numbers{3}
	for range 20000 {
		x, y := math.Abs(n.float()), math.Abs(n.float())
		checkRoot(t, made(t, min(x, y), max(x, y)))
	}
}

func TestSqrtNegative(t *testing.T) {
	for _, c := range [][2]float64{{-1, 1}, {-0x1p-900, 0}, {-0x1p-900, 0x1p900}, {-2, -1}, {-0x1p900, -0x1p900}} {
		r, err := made(t, c[0], c[1]).Sqrt()
		if !isOpError(err, "sqrt", enclose.ErrNegative) || !hasEnds(r, 0, 0) {
			t.Errorf("P4: the root of [%x, %x] = %x, %v, want ErrNegative", c[0], c[1], r, err)
		}
	}
	if r, err := made(t, minusZero, minusZero).Sqrt(); err != nil || !hasEnds(r, 0, 0) {
		t.Errorf("P4: the root of 0 = %x, %v", r, err)
	}
}
