package ratio

import (
	"iter"

	"majordomo/api"
)

// Simplest returns the simplest fraction of an interval.
func Simplest(lo, hi api.Ratio) (api.Ratio, api.Errno) {
	if !Valid(lo) || !Valid(hi) {
		return api.Ratio{}, api.ErrArg
	}
	if order(lo, hi) > 0 {
		return api.Ratio{}, api.ErrRange
	}
	signed := negation(hi.Neg)
	switch {
	case hi.Neg:
		lo, hi = signed(hi), signed(lo)
	case lo.Neg:
		return api.Ratio{Den: natural(1)}, api.OK
	}
	before, last := ends()
	for part := range parts(lo, hi) {
		before, last = last, further(before, last, part)
	}
	return signed(last), api.OK
}

// Nearest returns the nearest fraction with a small denominator.
func Nearest(x api.Ratio, den int) (api.Ratio, api.Errno) {
	if !Valid(x) {
		return api.Ratio{}, api.ErrArg
	}
	if den < 1 || den > api.MaxDen {
		return api.Ratio{}, api.ErrRange
	}
	signed := negation(x.Neg)
	lo, hi := around(signed(x), magnitude(den))
	lo, hi = signed(lo), signed(hi)
	if order(lo, hi) > 0 {
		lo, hi = hi, lo
	}
	if order(sum(x, x), sum(lo, hi)) > 0 {
		return hi, api.OK
	}
	return lo, api.OK
}

// around returns two fractions with a Den of at most most between which x, which is not below 0, lies, and no other fraction with such a Den; one of them is x itself if it has one.
func around(x api.Ratio, most api.Nat) (a, b api.Ratio) {
	before, last := ends()
	for part := range parts(x, x) {
		next := further(before, last, part)
		if compare(next.Den, most) > 0 {
			break
		}
		before, last = last, next
	}
	part, _ := divide(subtract(most, before.Den), last.Den)
	return last, further(before, last, part)
}

// parts yields the parts of the continued fraction of the simplest fraction from lo to hi, neither of which is below 0. Where both are one number, these are the number's own.
func parts(lo, hi api.Ratio) iter.Seq[api.Nat] {
	return func(yield func(api.Nat) bool) {
		for {
			part, rest := divide(lo.Num, lo.Den)
			greatest, restOfHi := divide(hi.Num, hi.Den)
			if len(rest) == 0 {
				yield(part)
				return
			}
			if compare(part, greatest) < 0 {
				yield(add(part, natural(1)))
				return
			}
			if !yield(part) {
				return
			}
			// No whole number lies between them. Turned over, what is left of them changes places.
			lo, hi = api.Ratio{Num: hi.Den, Den: restOfHi}, api.Ratio{Num: lo.Den, Den: rest}
		}
	}
}

// ends returns the two pairs with which every continued fraction begins, before its first part.
func ends() (before, last api.Ratio) {
	return api.Ratio{Den: natural(1)}, api.Ratio{Num: natural(1)}
}

// further returns the fraction that follows two others in a continued fraction, with a part.
func further(before, last api.Ratio, part api.Nat) api.Ratio {
	return api.Ratio{
		Num: add(before.Num, multiply(part, last.Num)),
		Den: add(before.Den, multiply(part, last.Den)),
	}
}
