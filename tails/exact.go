package tails

import (
	"majordomo/api"
	"majordomo/ratio"
)

// The functions of package ratio that are called here return no errors: all fractions are valid, no Den is 0, and the greatest numbers, C(64, 32) times the 64th power of 1000 at most, have less than api.MaxLimbs limbs.

// fraction returns n / d.
func fraction(n, d int) api.Ratio {
	x, _ := ratio.Of(n, d)
	return x
}

func whole(n int) api.Ratio { return fraction(n, 1) }

func sum(parts ...api.Ratio) api.Ratio {
	all := whole(0)
	for _, x := range parts {
		all, _ = ratio.Add(all, x)
	}
	return all
}

func difference(x, y api.Ratio) api.Ratio {
	z, _ := ratio.Sub(x, y)
	return z
}

func product(x, y api.Ratio) api.Ratio {
	z, _ := ratio.Mul(x, y)
	return z
}

func quotient(x, y api.Ratio) api.Ratio {
	z, _ := ratio.Div(x, y)
	return z
}

// isAbove reports whether x is greater than y.
func isAbove(x, y api.Ratio) bool {
	order, _ := ratio.Cmp(x, y)
	return order > 0
}

// powers returns a function that returns powers of a number, and keeps those that it has made for the ones above them.
func powers(base api.Ratio) func(exponent int) api.Ratio {
	made := []api.Ratio{whole(1)}
	return func(exponent int) api.Ratio {
		for last := len(made) - 1; last < exponent; last++ {
			made = append(made, product(made[last], base))
		}
		return made[exponent]
	}
}
