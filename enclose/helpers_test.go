package enclose_test

import (
	"errors"
	"math"
	"math/big"
	"testing"

	"enclose/enclose"
)

var minusZero = math.Copysign(0, -1)

// made is an interval whose ends a test is sure of.
func made(t *testing.T, lo, hi float64) enclose.Interval {
	t.Helper()
	a, err := enclose.Make(lo, hi)
	if err != nil {
		t.Fatalf("Make(%x, %x): %v", lo, hi, err)
	}
	return a
}

func sameBits(x, y float64) bool { return math.Float64bits(x) == math.Float64bits(y) }

// hasEnds compares to the bit, so that -0 is not taken for 0.
func hasEnds(a enclose.Interval, lo, hi float64) bool {
	return sameBits(a.Lo(), lo) && sameBits(a.Hi(), hi)
}

// isOpError tells whether err itself, not something inside it, is an *OpError of these two.
func isOpError(err error, op string, inner error) bool {
	e, ok := err.(*enclose.OpError)
	return ok && e.Op == op && e.Err == inner && e.Unwrap() == inner
}

func above(x float64) float64 { return math.Nextafter(x, math.Inf(1)) }
func below(x float64) float64 { return math.Nextafter(x, math.Inf(-1)) }

// method is an operation of two intervals under the name that its errors have.
type method struct {
	op string
	do func(a, b enclose.Interval) (enclose.Interval, error)
}

func methods() []method {
	return []method{
		{"+", enclose.Interval.Add},
		{"-", enclose.Interval.Sub},
		{"*", enclose.Interval.Mul},
		{"/", enclose.Interval.Div},
	}
}

// numbers is a row of numbers that is the same in each run.
type numbers struct{ state uint64 }

func (n *numbers) next() uint64 {
	n.state ^= n.state << 13
	n.state ^= n.state >> 7
	n.state ^= n.state << 17
	return n.state
}

func (n *numbers) under(limit int) int { return int(n.next() >> 11 % uint64(limit)) }

// float is a plain float: of few digits or of many, near 1, near the edges, near what squares to an edge, or anywhere.
func (n *numbers) float() float64 {
	digits := n.next() >> 12
	if n.under(2) == 0 {
		digits &^= 1<<(40+n.under(12)) - 1
	}
	x := math.Float64frombits(1023<<52 | digits)
	switch n.under(6) {
	case 0:
		return 0
	case 1, 2:
		x = math.Ldexp(x, n.under(8)-4)
	case 3:
		x = math.Ldexp(x, []int{-900, -899, 898, 899}[n.under(4)])
	case 4:
		x = math.Ldexp(x, []int{-451, -450, -449, 449, 450, 451}[n.under(6)])
	case 5:
		x = math.Ldexp(x, n.under(1800)-900)
	}
	if n.under(2) == 0 {
		return -x
	}
	return x
}

func (n *numbers) interval(t *testing.T) enclose.Interval {
	lo, hi := n.float(), n.float()
	if n.under(4) == 0 {
		hi = lo
	}
	return made(t, min(lo, hi), max(lo, hi))
}

func rational(x float64) *big.Rat { return new(big.Rat).SetFloat64(x) }

// exactly does an operation of two floats without any rounding.
func exactly(op string, x, y float64) *big.Rat {
	a, b := rational(x), rational(y)
	switch op {
	case "+":
		return a.Add(a, b)
	case "-":
		return a.Sub(a, b)
	case "*":
		return a.Mul(a, b)
	}
	return a.Quo(a, b)
}

// cut is the next number of 53 binary digits in a direction, of whatever exponent; false, if it is no plain float.
func cut(x *big.Rat, mode big.RoundingMode) (float64, bool) {
	f := new(big.Float).SetPrec(53).SetMode(mode).SetRat(x)
	if f.Sign() == 0 {
		return 0, true
	}
	amount := new(big.Float).Abs(f)
	if amount.Cmp(big.NewFloat(0x1p-900)) < 0 || amount.Cmp(big.NewFloat(0x1p900)) > 0 {
		return 0, false
	}
	y, _ := f.Float64()
	return y, true
}

// least is the least interval around the results of the ends; false, if it is not there.
func least(op string, a, b enclose.Interval) (lo, hi float64, there bool) {
	first := exactly(op, a.Lo(), b.Lo())
	from, to := first, first
	for _, x := range []float64{a.Lo(), a.Hi()} {
		for _, y := range []float64{b.Lo(), b.Hi()} {
			r := exactly(op, x, y)
			if r.Cmp(from) < 0 {
				from = r
			}
			if r.Cmp(to) > 0 {
				to = r
			}
		}
	}
	lo, low := cut(from, big.ToNegativeInf)
	hi, high := cut(to, big.ToPositiveInf)
	return lo, hi, low && high
}

// agrees holds one answer of an operation against exact reckoning.
func agrees(t *testing.T, m method, a, b enclose.Interval) {
	t.Helper()
	r, err := m.do(a, b)
	if m.op == "/" && b.Lo() <= 0 && b.Hi() >= 0 {
		if !hasEnds(r, 0, 0) || !isOpError(err, "/", enclose.ErrZero) {
			t.Errorf("P4: %x / %x = %x, %v, want ErrZero", a, b, r, err)
		}
		return
	}
	lo, hi, there := least(m.op, a, b)
	if !there {
		if !hasEnds(r, 0, 0) || !isOpError(err, m.op, enclose.ErrRange) {
			t.Errorf("P4: %x %s %x = %x, %v, want ErrRange", a, m.op, b, r, err)
		}
		return
	}
	if err != nil || !hasEnds(r, lo, hi) {
		t.Errorf("P4: %x %s %x = %x, %v, want [%x, %x]", a, m.op, b, r, err, lo, hi)
	}
}

// unwrapped is the innermost error.
func unwrapped(err error) error {
	for errors.Unwrap(err) != nil {
		err = errors.Unwrap(err)
	}
	return err
}
