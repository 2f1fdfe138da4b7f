package enclose_test

import (
	"math"
	"math/big"
	"testing"

	"enclose/enclose"
)

type (
	ownInt   int
	ownInt32 int32
	ownInt64 int64
	ownFloat float64
	twice    ownInt64
)

// checkExact asks Exact of a whole number, and wants the same of a float's ends as exact reckoning does.
func checkExact[T enclose.Number](t *testing.T, x T, n int64) {
	t.Helper()
	whole := new(big.Rat).SetInt64(n)
	lo, _ := cut(whole, big.ToNegativeInf)
	hi, _ := cut(whole, big.ToPositiveInf)
	a, err := enclose.Exact(x)
	if err != nil || !hasEnds(a, lo, hi) {
		t.Errorf("P6: Exact(%T of %d) = %x, %v, want [%x, %x]", x, n, a, err, lo, hi)
	}
}

func TestExactWhole(t *testing.T) {
	l := []int64{0, 1, -1, 2, 7, 2047, 2048, 2049, -2047, -2048, -2049, math.MaxInt32, math.MinInt32, math.MaxInt64, math.MinInt64}
	for shift := 53; shift < 63; shift++ {
		power, halfStep := int64(1)<<shift, int64(1)<<(shift-53)
		for step := int64(-5); step <= 5; step++ {
			l = append(l, power+step, step-power, power+halfStep+step, step-power-halfStep, power+3*halfStep+step, step-power-3*halfStep)
		}
	}
	n := &numbers{17}
	for range 20000 {
		l = append(l, int64(n.next())>>n.under(64))
	}
	for _, x := range l {
		checkExact(t, x, x)
		checkExact(t, int(x), int64(int(x)))
		checkExact(t, int32(x), int64(int32(x)))
		checkExact(t, ownInt(x), int64(int(x)))
		checkExact(t, ownInt32(x), int64(int32(x)))
		checkExact(t, ownInt64(x), x)
		checkExact(t, twice(x), x)
	}
}

func TestExactBetweenFloats(t *testing.T) {
	a, err := enclose.Exact(int64(1<<53 + 1))
	if err != nil || !hasEnds(a, 1<<53, 1<<53+2) {
		t.Errorf("P6: Exact(2^53 + 1) = %x, %v", a, err)
	}
	a, err = enclose.Exact(int64(math.MaxInt64))
	if err != nil || !hasEnds(a, 0x1.fffffffffffffp+62, 0x1p63) {
		t.Errorf("P6: Exact(2^63 - 1) = %x, %v", a, err)
	}
	a, err = enclose.Exact(int64(math.MinInt64 + 1))
	if err != nil || !hasEnds(a, -0x1p63, -0x1.fffffffffffffp+62) {
		t.Errorf("P6: Exact(1 - 2^63) = %x, %v", a, err)
	}
}

func TestExactFloat(t *testing.T) {
	l := append(edgeFloats(), minusZero, 0.5, -0.5, 0x1p63, 1e300*1e-40)
	for _, x := range l {
		want := x
		if x == 0 {
			want = 0
		}
		if a, err := enclose.Exact(x); err != nil || !hasEnds(a, want, want) {
			t.Errorf("P6: Exact(%x) = %x, %v", x, a, err)
		}
		if a, err := enclose.Exact(ownFloat(x)); err != nil || !hasEnds(a, want, want) {
			t.Errorf("P6: Exact(%x) of a type of float64's kind = %x, %v", x, a, err)
		}
	}
	for _, x := range notPlain() {
		if a, err := enclose.Exact(x); err != enclose.ErrFloat || !hasEnds(a, 0, 0) {
			t.Errorf("P6: Exact(%x) = %x, %v, want ErrFloat", x, a, err)
		}
		if a, err := enclose.Exact(ownFloat(x)); err != enclose.ErrFloat || !hasEnds(a, 0, 0) {
			t.Errorf("P6: Exact(%x) of a type of float64's kind = %x, %v, want ErrFloat", x, a, err)
		}
	}
}
