package enclose

import "math"

// bounds are the two floats next to a real number: the greatest one that is not above it, and the least one that is not below it. Where such a number is no plain float, neither is what stands for it here, and it lies on the same side of 0 and of all plain floats.
type bounds struct {
	down, up float64
}

// around are the bounds of a number by the float that is nearest to it and by what the number has beyond that float, of which only the sign counts.
func around(near, rest float64) bounds {
	if rest > 0 {
		return bounds{near, math.Nextafter(near, math.Inf(1))}
	}
	if rest < 0 {
		return bounds{math.Nextafter(near, math.Inf(-1)), near}
	}
	return bounds{near, near}
}

// isLost tells that a result is so small that its remainder could not be told, or that it may have become 0. All of these are far below the plain floats.
func isLost(near float64) bool { return math.Abs(near) < 0x1p-1000 }

// lost stands for a number that isLost, but is not 0.
func lost(below bool) bounds {
	const small = 0x1p-1000
	if below {
		return bounds{-small, -small}
	}
	return bounds{small, small}
}

// sum: of two plain floats nothing is lost but by rounding, and that remainder is a float.
func sum(x, y float64) bounds {
	near := x + y
	taken := near - x
	rest := (x - (near - taken)) + (y - taken)
	return around(near, rest)
}

func product(x, y float64) bounds {
	if x == 0 || y == 0 {
		return bounds{}
	}
	near := float64(x * y) // the conversion keeps this rounding apart from what comes after it
	if isLost(near) {
		return lost((x < 0) != (y < 0))
	}
	return around(near, math.FMA(x, y, -near))
}

// quotient: y is not 0.
func quotient(x, y float64) bounds {
	if x == 0 {
		return bounds{}
	}
	near := x / y
	if isLost(near) {
		return lost((x < 0) != (y < 0))
	}
	rest := math.FMA(-near, y, x) // that is y times what the quotient has beyond near
	if y < 0 {
		rest = -rest
	}
	return around(near, rest)
}

// root: x is not below 0.
func root(x float64) bounds {
	near := math.Sqrt(x)
	return around(near, math.FMA(-near, near, x))
}
