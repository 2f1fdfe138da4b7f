package enclose_test

import (
	"errors"
	"fmt"

	"enclose/enclose"
)

func Example() {
	one, _ := enclose.Exact(1)
	three, _ := enclose.Exact(3)
	third, err := one.Div(three)
	fmt.Printf("%x %x %v\n", third.Lo(), third.Hi(), err)
	sum, err := enclose.Apply("+", third, one)
	fmt.Printf("%x %x %v\n", sum.Lo(), sum.Hi(), err)
	_, err = one.Div(enclose.Interval{})
	fmt.Println(err, errors.Is(err, enclose.ErrZero))
	// Output:
	// 0x1.5555555555555p-02 0x1.5555555555556p-02 <nil>
	// 0x1.5555555555555p+00 0x1.5555555555556p+00 <nil>
	// /: division by what holds 0 true
}
