package enclose_test

import (
	"errors"
	"fmt"

	"enclose/enclose"
)

func Example() {
	one, _ := enclose.Exact(1)
	three, _ := enclose.Exact(3)
	third, err := one.Div(three)
	fmt.Printf("%x %x %v\n", third.Lo(), third.Hi(), err)
	sum, err := enclose.Apply("+", third, one)
	fmt.Printf("%x %x %v\n", sum.Lo(), sum.Hi(), err)
	_, err = one.Div(enclose.Interval{})
	fmt.Println(err, errors.Is(err, enclose.ErrZero))
	// Output:
	// 0x1.5555555555555p-02 0x1.5555555555556p-02 <nil>
	// 0x1.5555555555555p+00 0x1.5555555555556p+00 <nil>
	// /: division by what holds 0 true
}

func ExampleEval() {
	x, _ := enclose.Make(-1, 2)
	r, err := enclose.Eval([]float64{-2, 0, 1}, x) // x * x - 2
	fmt.Println(r.Lo(), r.Hi(), err)
	// Output:
	// -4 2 <nil>
}

func ExampleRoots() {
	x, _ := enclose.Make(0, 2)
	pieces, err := enclose.Roots([]float64{-2, 0, 1}, x, 3)
	if err != nil {
		fmt.Println(err)
		return
	}
	for piece := range pieces {
		fmt.Println(piece.Lo(), piece.Hi())
	}
	// Output:
	// 1.25 1.5
}

func ExampleSolve() {
	one, _ := enclose.Exact(1)
	four, _ := enclose.Exact(4)
	six, _ := enclose.Exact(6)
	nine, _ := enclose.Exact(9)
	a := [][]enclose.Interval{{four, one}, {one, four}}
	l, err := enclose.Solve(a, []enclose.Interval{six, nine})
	for i, x := range l {
		truth := float64(i + 1)
		fmt.Println(x.Lo() <= truth && truth <= x.Hi(), x.Hi()-x.Lo() < 1e-9)
	}
	fmt.Println(err)

	_, err = enclose.Solve([][]enclose.Interval{{one, one}, {one, one}}, []enclose.Interval{six, nine})
	fmt.Println(err == enclose.ErrSure)
	// Output:
	// true true
	// true true
	// <nil>
	// true
}
