package tails_test

import (
	"math"
	"math/big"
	"math/rand"
	"slices"
	"testing"

	"majordomo/api"
	"majordomo/ratio"
	"majordomo/tails"
)

// P11.5: the consequences.

// must returns a function that returns the result of a call, which should have no error.
func must[T any](t *testing.T) func(result T, e api.Errno) T {
	return func(result T, e api.Errno) T {
		t.Helper()
		if e != api.OK {
			t.Errorf("error %d", e)
		}
		return result
	}
}

// someRates are rates small and large.
func someRates() []*big.Rat { return append(smallRates(5), largeRates()...) }

func TestProbabilitiesAddUp(t *testing.T) {
	number := must[api.Ratio](t)
	for _, n := range []int{0, 1, 2, 5, 12, 64} {
		for _, p := range someRates() {
			rest := frac("0") // the tail at k + 1
			for k := n; k >= 0; k-- {
				tail, one := number(tails.Tail(n, k, fraction(p))), number(tails.Exactly(n, k, fraction(p)))
				rest = number(ratio.Add(rest, one))
				if !equal(rest, tail) {
					t.Errorf("Tail(%d, %d) of %s is not that at %d and the probability of exactly %d", n, k, p, k+1, k)
				}
			}
			if !equal(rest, frac("1")) {
				t.Errorf("the probabilities of 0 to %d failures with %s are together %s", n, p, ratio.Text(rest))
			}
		}
	}
}

func TestComplements(t *testing.T) {
	number := must[api.Ratio](t)
	for _, n := range []int{0, 1, 2, 5, 12, 64} {
		for _, p := range someRates() {
			q := minus(big.NewRat(1, 1), p)
			for k := range n + 2 {
				both := number(ratio.Add(number(tails.Tail(n, k, fraction(p))), number(tails.Tail(n, n+1-k, fraction(q)))))
				if !equal(both, frac("1")) {
					t.Errorf("Tail(%d, %d) of %s and Tail(%d, %d) of %s are together %s", n, k, p, n, n+1-k, q, ratio.Text(both))
				}
			}
		}
	}
}

// checkNotLess checks that one tail is not less than another one.
func checkNotLess(t *testing.T, n, k int, p *big.Rat, otherN, otherK int, q *big.Rat) {
	t.Helper()
	number := must[api.Ratio](t)
	tail, other := number(tails.Tail(n, k, fraction(p))), number(tails.Tail(otherN, otherK, fraction(q)))
	if must[int](t)(ratio.Cmp(tail, other)) < 0 {
		t.Errorf("Tail(%d, %d, %s) is less than Tail(%d, %d, %s)", n, k, p, otherN, otherK, q)
	}
}

func TestTailsNeverFall(t *testing.T) {
	rates := someRates()
	slices.SortFunc(rates, func(x, y *big.Rat) int { return x.Cmp(y) })
	for _, n := range []int{0, 1, 2, 5, 12, 63} {
		for i, p := range rates {
			for k := range n + 2 {
				checkNotLess(t, n+1, k, p, n, k, p)
				if k > 0 {
					checkNotLess(t, n, k-1, p, n, k, p)
				}
				if i > 0 {
					checkNotLess(t, n, k, p, n, k, rates[i-1])
				}
			}
		}
	}
}

func TestChooseIsSymmetricAndAddsUp(t *testing.T) {
	choose := must[api.Nat](t)
	as := func(n api.Nat) api.Ratio { return api.Ratio{Num: n, Den: api.Nat{1}} }
	for n := range api.MaxTrials + 1 {
		for k := range n + 1 {
			if !slices.Equal(choose(tails.Choose(n, k)), choose(tails.Choose(n, n-k))) {
				t.Errorf("Choose(%d, %d) is not Choose(%d, %d)", n, k, n, n-k)
			}
			if k == n || n == api.MaxTrials {
				continue
			}
			both := must[api.Ratio](t)(ratio.Add(as(choose(tails.Choose(n, k))), as(choose(tails.Choose(n, k+1)))))
			if !equal(as(choose(tails.Choose(n+1, k+1))), both) {
				t.Errorf("Choose(%d, %d) is not the sum of those of %d", n+1, k+1, n)
			}
		}
	}
}

// TestCriticalAndUpperAgree holds that k is critical for rates of which Upper says that their tails at k are not above the bound, but those at k - 1 are.
func TestCriticalAndUpperAgree(t *testing.T) {
	r := rand.New(rand.NewSource(11))
	for range 300 {
		n, den, bound := r.Intn(20), 1+r.Intn(60), randomRate(r)
		j := r.Intn(den + 1)
		k := must[int](t)(tails.Critical(n, fraction(big.NewRat(int64(j), int64(den))), fraction(bound)))
		if least, e := tails.Upper(n, k, fraction(bound), den); e == api.OK && least <= j {
			t.Errorf("Upper(%d, %d, %s, %d) = %d, but %d is critical for %d/%d", n, k, bound, den, least, k, j, den)
		}
		if k == 0 {
			continue
		}
		if least, e := tails.Upper(n, k-1, fraction(bound), den); e != api.OK || least > j {
			t.Errorf("Upper(%d, %d, %s, %d) = %d, %d, but %d is critical for %d/%d", n, k-1, bound, den, least, e, k, j, den)
		}
	}
}

// Invalid arguments: in each function, alone and together, in the order of the errors (P1, and DOC.md, rules 1 and 2).

// checkNothing checks that each function with these arguments, as far as it has them, has an error and no result.
func checkNothing(t *testing.T, n, k int, p, bound api.Ratio, den int, ofOne, ofCritical, ofUpper api.Errno) {
	t.Helper()
	x, e := tails.Exactly(n, k, p)
	checkNoFraction(t, called("Exactly", n, k), x, e, ofOne)
	x, e = tails.Tail(n, k, p)
	checkNoFraction(t, called("Tail", n, k), x, e, ofOne)
	got, e := tails.Critical(n, p, bound)
	checkNumber(t, called("Critical", n), got, e, 0, ofCritical)
	got, e = tails.Upper(n, k, bound, den)
	checkNumber(t, called("Upper", n, k, den), got, e, 0, ofUpper)
}

func TestInvalidFractions(t *testing.T) {
	numbers := append(outside(api.MaxTrials), 0, 1, 5)
	for _, m := range misfits() {
		for i, n := range numbers {
			k, den := numbers[len(numbers)-1-i], numbers[(i+3)%len(numbers)]
			checkNothing(t, n, k, m, m, den, api.ErrArg, api.ErrArg, api.ErrArg)
			for _, good := range fractions("0", "1", "1/2", "1/1001", "-1/2", "3/2") {
				if k, e := tails.Critical(n, good, m); k != 0 || e != api.ErrArg {
					t.Errorf("Critical(%d, %v, %.80v) = %d, %d", n, good, m, k, e)
				}
				if k, e := tails.Critical(n, m, good); k != 0 || e != api.ErrArg {
					t.Errorf("Critical(%d, %.80v, %v) = %d, %d", n, m, good, k, e)
				}
			}
		}
	}
}

func TestFractionsOutOfRange(t *testing.T) {
	half := frac("1/2")
	for _, x := range noBounds() {
		for _, n := range append(outside(api.MaxTrials), 0, 1, 5, 64) {
			checkNothing(t, n, 0, x, x, 10, api.ErrRange, api.ErrRange, api.ErrRange)
			checkNothing(t, n, n, x, x, 10, api.ErrRange, api.ErrRange, api.ErrRange)
			got, e := tails.Critical(n, half, x)
			checkNumber(t, called("Critical", n)+" of 1/2 with "+ratio.Text(x), got, e, 0, api.ErrRange)
		}
	}
	for _, p := range noRates() {
		for _, n := range append(outside(api.MaxTrials), 0, 1, 5, 64) {
			x, e := tails.Exactly(n, 0, p)
			checkNoFraction(t, called("Exactly", n, 0)+" of "+ratio.Text(p), x, e, api.ErrRange)
			x, e = tails.Tail(n, 0, p)
			checkNoFraction(t, called("Tail", n, 0)+" of "+ratio.Text(p), x, e, api.ErrRange)
			k, e := tails.Critical(n, p, half)
			checkNumber(t, called("Critical", n)+" of "+ratio.Text(p), k, e, 0, api.ErrRange)
		}
	}
}

// A bound may have a great denominator, though a rate may not.
func TestBoundsThatAreNoRates(t *testing.T) {
	for _, b := range []string{"1/1001", "1000/1001", "1/4294967297", "18446744073709551615/18446744073709551617"} {
		must[int](t)(tails.Critical(5, frac("1/2"), frac(b)))
		must[int](t)(tails.Upper(5, 5, frac(b), 1000))
	}
	k, e := tails.Critical(1, frac("1/1000"), frac("1/1001"))
	checkNumber(t, "Critical(1, 1/1000) with 1/1001", k, e, 2, api.OK)
	k, e = tails.Critical(1, frac("1/1000"), frac("1/999"))
	checkNumber(t, "Critical(1, 1/1000) with 1/999", k, e, 1, api.OK)
}

func TestNumbersOutOfRange(t *testing.T) {
	p := frac("1/2")
	for _, n := range outside(api.MaxTrials) {
		for _, k := range []int{0, 1, n, n - 1, n + 1, 64, 65, math.MinInt, math.MaxInt} {
			checkNothing(t, n, k, p, p, 10, api.ErrRange, api.ErrRange, api.ErrRange)
		}
	}
	for n := range api.MaxTrials + 1 {
		for _, k := range append(outside(n+1), n+1) {
			x, e := tails.Exactly(n, k, p)
			checkNoFraction(t, called("Exactly", n, k), x, e, api.ErrRange)
		}
		for _, k := range outside(n + 1) {
			x, e := tails.Tail(n, k, p)
			checkNoFraction(t, called("Tail", n, k), x, e, api.ErrRange)
			j, e := tails.Upper(n, k, p, 10)
			checkNumber(t, called("Upper", n, k)+" with 1/2 of 10", j, e, 0, api.ErrRange)
		}
		for _, den := range append(outside(api.MaxDen), 0, 1001) {
			for k := range n + 2 { // also where no rate would be enough
				for _, bound := range fractions("0", "1/2", "1") {
					j, e := tails.Upper(n, k, bound, den)
					checkNumber(t, called("Upper", n, k)+" with "+ratio.Text(bound)+called(" of", den), j, e, 0, api.ErrRange)
				}
			}
		}
	}
	j, e := tails.Upper(5, 6, frac("3/2"), 10)
	checkNumber(t, "Upper(5, 6) with 3/2 of 10", j, e, 0, api.ErrRange)
	j, e = tails.Upper(5, 7, frac("1"), 10)
	checkNumber(t, "Upper(5, 7) with 1 of 10", j, e, 0, api.ErrRange)
}

// DOC.md, rules 2 to 5: nil and empty lists are the same, arguments stay as they are, results share no memory, equal arguments give equal results.

func TestNilAndEmpty(t *testing.T) {
	none := api.Ratio{Num: api.Nat{}, Den: api.Nat{1}}
	for k := range 4 {
		x, e := tails.Tail(3, k, none)
		checkFraction(t, called("Tail", 3, k), x, e, tailsOf(3, new(big.Rat))[k])
		x, e = tails.Exactly(3, k, none)
		checkFraction(t, called("Exactly", 3, k), x, e, exactly(3, new(big.Rat))[k])
		j, e := tails.Upper(3, k, none, 10)
		checkNumber(t, called("Upper", 3, k)+" with 0 of 10", j, e, min(k, 1), api.OK)
	}
	k, e := tails.Critical(3, none, none)
	checkNumber(t, "Critical(3, 0, 0)", k, e, 1, api.OK)
}

func TestMemoryOfArguments(t *testing.T) {
	all := slices.Concat(fractions("0", "1", "1/2", "499/997", "999/1000"), noRates(), misfits()[:17])
	for _, x := range all {
		handed, as := roomy(x), api.Ratio{Neg: x.Neg, Num: slices.Clone(x.Num), Den: slices.Clone(x.Den)}
		for _, n := range []int{-1, 0, 1, 5, 64} {
			for _, k := range []int{0, n, n + 1} {
				tails.Exactly(n, k, handed)
				tails.Tail(n, k, handed)
				tails.Critical(n, handed, handed)
				tails.Upper(n, k, handed, 10)
			}
		}
		checkUnspoilt(t, handed, as)
	}
}

func TestMemoryOfResults(t *testing.T) {
	for _, p := range someRates() {
		for _, n := range []int{0, 1, 2, 7} {
			for k := range n + 1 {
				handed := roomy(fraction(p))
				for _, f := range []func(int, int, api.Ratio) (api.Ratio, api.Errno){tails.Exactly, tails.Tail} {
					one := must[api.Ratio](t)(f(n, k, handed))
					num := slices.Clone(one.Num)
					spoil(one.Den)
					if !slices.Equal(one.Num, num) {
						t.Errorf("the parts of the result with %d, %d, %s share memory", n, k, p)
					}
					spoil(one.Num)
					checkUnspoilt(t, handed, fraction(p))
				}
				x, e := tails.Exactly(n, k, handed)
				checkFraction(t, called("Exactly", n, k), x, e, exactly(n, p)[k])
				x, e = tails.Tail(n, k, handed)
				checkFraction(t, called("Tail", n, k), x, e, tailsOf(n, p)[k])
			}
		}
	}
	for n := range api.MaxTrials + 1 {
		for k := range n + 1 {
			spoil(must[api.Nat](t)(tails.Choose(n, k)))
			checkChoose(t, n, k, new(big.Int).Binomial(int64(n), int64(k)), api.OK)
		}
	}
}
