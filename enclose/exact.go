package enclose

// Number is what Exact takes.
type Number interface {
	~int | ~int32 | ~int64 | ~float64
}

// Exact is the least interval around a number.
func Exact[T Number](x T) (Interval, error) {
	if hasHalves[T]() {
		return Make(float64(x), float64(x))
	}
	return aroundWhole(int64(x)), nil
}

// hasHalves tells the floats from the whole numbers, also where a type has a name of its own, which no type switch would know.
func hasHalves[T Number]() bool {
	one := T(1)
	return one/2 != 0
}

// aroundWhole: a whole number of 64 bits may be no float, but it is the sum of two.
func aroundWhole(n int64) Interval {
	const low = 1<<11 - 1 // what is left above these bits has no more than 53
	s := sum(float64(n&^low), float64(n&low))
	return Interval{s.down, s.up}
}
