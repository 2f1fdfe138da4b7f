package enclose_test

import (
	"testing"

	"enclose/enclose"
)

// sameAnswer holds two answers of an operation against each other.
func sameAnswer(r enclose.Interval, err error, s enclose.Interval, want error) bool {
	if !hasEnds(r, s.Lo(), s.Hi()) || (err == nil) != (want == nil) {
		return false
	}
	o, ok := want.(*enclose.OpError)
	if !ok {
		return err == want
	}
	return isOpError(err, o.Op, o.Err)
}

func TestApplyIsTheMethod(t *testing.T) {
	named := append(methods(),
		method{"hull", func(a, b enclose.Interval) (enclose.Interval, error) { return a.Hull(b), nil }},
		method{"meet", enclose.Interval.Meet},
	)
	n := &numbers{13}
	for range 3000 {
		a, b := n.interval(t), n.interval(t)
		for _, m := range named {
			r, err := enclose.Apply(m.op, a, b)
			s, want := m.do(a, b)
			if !sameAnswer(r, err, s, want) {
				t.Errorf("P5: Apply(%q, %x, %x) = %x, %v, want %x, %v", m.op, a, b, r, err, s, want)
			}
		}
	}
}

func TestApplyAnswers(t *testing.T) {
	a, b := made(t, 1, 2), made(t, 5, 6)
	for _, c := range []struct {
		op     string
		lo, hi float64
	}{
		{"+", 6, 8}, {"-", -5, -3}, {"*", 5, 12}, {"/", 0x1.5555555555555p-03, 0x1.999999999999ap-02}, {"hull", 1, 6},
	} {
		if r, err := enclose.Apply(c.op, a, b); err != nil || !hasEnds(r, c.lo, c.hi) {
			t.Errorf("P5: Apply(%q, [1, 2], [5, 6]) = %x, %v", c.op, r, err)
		}
	}
	if r, err := enclose.Apply("meet", a, b); err != enclose.ErrEmpty || !hasEnds(r, 0, 0) {
		t.Errorf("P5: Apply(meet) where nothing is in common = %x, %v", r, err)
	}
	if r, err := enclose.Apply("meet", a, made(t, 1.5, 6)); err != nil || !hasEnds(r, 1.5, 2) {
		t.Errorf("P5: Apply(meet) = %x, %v", r, err)
	}
	if r, err := enclose.Apply("/", a, enclose.Interval{}); !isOpError(err, "/", enclose.ErrZero) || !hasEnds(r, 0, 0) {
		t.Errorf("P5: Apply(/) by 0 = %x, %v", r, err)
	}
}

func TestApplyOtherNames(t *testing.T) {
	for _, op := range []string{"", "add", "sub", "mul", "div", "sqrt", "neg", "Hull", "MEET", "hull ", " meet", "++", "+ ", "+\x00", "\xff", "−", "×", "hullmeet"} {
		r, err := enclose.Apply(op, made(t, 1, 2), made(t, 1, 2))
		if !isOpError(err, op, enclose.ErrName) || !hasEnds(r, 0, 0) {
			t.Errorf("P5: Apply(%q) = %x, %v, want ErrName", op, r, err)
		}
	}
}
