package enclose_test

import (
	"errors"
	"math"
	"slices"
	"strings"
	"testing"

	"enclose/enclose"
	"enclose/plain"
)

func packageErrors() []error {
	return []error{enclose.ErrFloat, enclose.ErrOrder, enclose.ErrRange, enclose.ErrZero, enclose.ErrNegative, enclose.ErrEmpty, enclose.ErrName, enclose.ErrShape, enclose.ErrSure}
}

func TestErrorsDiffer(t *testing.T) {
	texts := map[string]int{}
	for i, e := range packageErrors() {
		texts[e.Error()]++
		for k, f := range packageErrors() {
			if errors.Is(e, f) != (i == k) {
				t.Errorf("errors %d and %d", i, k)
			}
		}
	}
	if len(texts) != len(packageErrors()) || !plain.Different() {
		t.Errorf("the errors are not told apart: %v", texts)
	}
}

func TestOpError(t *testing.T) {
	for _, inner := range packageErrors() {
		var e error = &enclose.OpError{Op: "+", Err: inner}
		if errors.Unwrap(e) != inner || !errors.Is(e, inner) {
			t.Errorf("an OpError's Unwrap: %v", errors.Unwrap(e))
		}
		if s := e.Error(); !strings.Contains(s, "+") || !strings.Contains(s, inner.Error()) {
			t.Errorf("an OpError's text: %q", s)
		}
	}
}

func TestOpErrorOfNothing(t *testing.T) {
	var none *enclose.OpError
	for _, e := range []*enclose.OpError{none, {}, {Op: "+"}, {Op: "+", Err: none}} {
		_ = e.Error()
	}
	if none.Unwrap() != nil || (&enclose.OpError{Op: "+"}).Unwrap() != nil {
		t.Errorf("P1: an OpError of nothing has something in it")
	}
}

// record is all that a call by package plain answers.
type record struct {
	box  plain.Box
	code int
	op   string
}

// everyCall asks all calls of two boxes; their ends are the numbers of polynomials too.
func everyCall(x, y plain.Box) []record {
	var l []record
	add := func(b plain.Box, n int, op string) { l = append(l, record{b, n, op}) }
	b, n := plain.Make(x)
	add(b, n, "")
	for k := range 8 {
		add(plain.Op(k, x, y))
	}
	for _, name := range []string{"+", "-", "*", "/", "hull", "meet", "", "sqrt", "add"} {
		add(plain.Apply(name, x, y))
	}
	for k := range 6 {
		b, n := plain.Exact(k, int64(x.Lo))
		add(b, n, "")
	}
	for _, p := range [][]uint64{nil, {x.Lo}, {x.Lo, y.Hi}, {y.Lo, x.Hi, x.Lo, y.Hi}, make([]uint64, 10)} {
		add(plain.Eval(p, y))
		for _, depth := range []int{-1, 0, 2, 9} {
			all, some, n := plain.Roots(p, y, depth, 2)
			add(plain.Box{}, n, "")
			for _, b := range append(all, some...) {
				add(b, 0, "")
			}
		}
	}
	for wide := range 3 {
		for _, a := range [][]plain.Box{nil, {x}, {x, y}, {x, y, y, x}, {y, x, x, y}} {
			for _, right := range [][]plain.Box{nil, {y}, {x, y}} {
				answer, n := plain.Solve(a, wide, right)
				add(plain.Box{}, n, "")
				if n != 0 && answer != nil {
					add(plain.Box{Lo: 1}, n, "") // checkRecord does not let this pass
				}
				for _, b := range answer {
					add(b, 0, "")
				}
			}
		}
	}
	return l
}

// checkRecord wants no unknown error, nothing beside an error, and else an interval as the document has it.
func checkRecord(t *testing.T, r record) {
	t.Helper()
	if r.code > 9 {
		t.Errorf("P1: an error that the document does not have here: %+v", r)
	}
	if r.code != 0 && r.box != (plain.Box{}) {
		t.Errorf("P1: an answer beside an error: %+v", r)
	}
	lo, hi := math.Float64frombits(r.box.Lo), math.Float64frombits(r.box.Hi)
	again, err := enclose.Make(lo, hi)
	if err != nil || !hasEnds(again, lo, hi) {
		t.Errorf("P1: an answer that is no interval: %+v, %v", r, err)
	}
}

func TestEveryCall(t *testing.T) {
	var l []uint64
	for _, x := range slices.Concat(notPlain(), edgeFloats(), []float64{minusZero, -0x1p30, -0x1p-30, 0x1p-30, 3, 4, 0x1p30}) {
		l = append(l, math.Float64bits(x))
	}
	n := &numbers{19}
	for range 100 {
		l = append(l, n.next())
	}
	pick := func() plain.Box { return plain.Box{Lo: l[n.under(len(l))], Hi: l[n.under(len(l))]} }
	type asked struct {
		x, y   plain.Box
		answer []record
	}
	var all []asked
	for range 5000 {
		x, y := pick(), pick()
		all = append(all, asked{x, y, everyCall(x, y)})
	}
	for i := len(all) - 1; i >= 0; i-- { // in another order: nothing may be left of the calls before
		again := everyCall(all[i].x, all[i].y)
		for _, r := range again {
			checkRecord(t, r)
		}
		if !slices.Equal(again, all[i].answer) {
			t.Errorf("P1: of %x, %x: %+v, but before: %+v", all[i].x, all[i].y, again, all[i].answer)
		}
	}
}

func TestArgumentsAreOnlyRead(t *testing.T) {
	n := &numbers{23}
	for range 1000 {
		a, b := n.interval(t), n.interval(t)
		keptA, keptB := a, b
		for _, m := range methods() {
			m.do(a, b)
		}
		a.Sqrt()
		a.Neg()
		a.Hull(b)
		a.Meet(b)
		enclose.Apply("*", a, b)
		if a != keptA || b != keptB {
			t.Fatalf("P1: %x, %x have become %x, %x", keptA, keptB, a, b)
		}
	}
}

func TestErrorsAreNotShared(t *testing.T) {
	one := enclose.Interval{}
	_, first := one.Div(one)
	first.(*enclose.OpError).Op = "changed by the caller"
	if _, second := one.Div(one); !isOpError(second, "/", enclose.ErrZero) {
		t.Errorf("P1: an error has been kept from call to call: %v", second)
	}
	if _, err := enclose.Apply("add", one, one); unwrapped(err) != enclose.ErrName {
		t.Errorf("P5: %v", err)
	}
}
