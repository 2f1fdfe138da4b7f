package enclose

// operation is what Apply does by a name.
type operation struct {
	name string
	do   func(a, b Interval) (Interval, error)
}

func operations() [6]operation {
	return [6]operation{
		{"+", Interval.Add},
		{"-", Interval.Sub},
		{"*", Interval.Mul},
		{"/", Interval.Div},
		{"hull", Interval.hullAlways},
		{"meet", Interval.Meet},
	}
}

// hullAlways is Hull in the form that the table has: there is always a hull.
func (a Interval) hullAlways(b Interval) (Interval, error) { return a.Hull(b), nil }

// Apply does the operation of that name.
func Apply(op string, a, b Interval) (Interval, error) {
	for _, o := range operations() {
		if o.name == op {
			return o.do(a, b)
		}
	}
	return Interval{}, &OpError{op, ErrName}
}
