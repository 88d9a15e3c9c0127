package tails_test

import (
	"math"
	"math/big"
	"math/rand"
	"slices"
	"testing"

	"majordomo/api"
	"majordomo/tails"
)

// natOf returns a number by limbs.
func natOf(n *big.Int) api.Nat {
	var l api.Nat
	for rest := new(big.Int).Set(n); rest.Sign() > 0; rest.Rsh(rest, 32) {
		l = append(l, uint32(new(big.Int).And(rest, big.NewInt(math.MaxUint32)).Uint64()))
	}
	return l
}

// fraction returns the fraction of a value, however many limbs it has.
func fraction(v *big.Rat) api.Ratio {
	return api.Ratio{Neg: v.Sign() < 0, Num: natOf(new(big.Int).Abs(v.Num())), Den: natOf(v.Denom())}
}

// number returns the value of a text such as -3/4 or 5.
func number(s string) *big.Rat {
	v, ok := new(big.Rat).SetString(s)
	if !ok {
		panic("no number: " + s)
	}
	return v
}

func frac(s string) api.Ratio { return fraction(number(s)) }

func numbers(texts ...string) []*big.Rat {
	var l []*big.Rat
	for _, s := range texts {
		l = append(l, number(s))
	}
	return l
}

func fractions(texts ...string) []api.Ratio {
	var l []api.Ratio
	for _, s := range texts {
		l = append(l, frac(s))
	}
	return l
}

// power returns a power of 2.
func power(exponent uint) *big.Int { return new(big.Int).Lsh(big.NewInt(1), exponent) }

// greatest is the greatest number of 32 limbs.
func greatest() *big.Int { return new(big.Int).Sub(power(1024), big.NewInt(1)) }

func over(num, den *big.Int) *big.Rat { return new(big.Rat).SetFrac(num, den) }

func plus(x, y *big.Rat) *big.Rat { return new(big.Rat).Add(x, y) }

func minus(x, y *big.Rat) *big.Rat { return new(big.Rat).Sub(x, y) }

// isBound reports whether a value has a valid fraction that is a bound.
func isBound(v *big.Rat) bool {
	return v.Sign() >= 0 && v.Cmp(number("1")) <= 0 && v.Num().BitLen() <= 1024 && v.Denom().BitLen() <= 1024
}

func equal(x, y api.Ratio) bool {
	return x.Neg == y.Neg && slices.Equal(x.Num, y.Num) && slices.Equal(x.Den, y.Den)
}

// smallRates are all rates with denominators of at most den.
func smallRates(den int64) []*big.Rat {
	var l []*big.Rat
	for d := int64(1); d <= den; d++ {
		for n := int64(0); n <= d; n++ {
			if v := big.NewRat(n, d); v.Denom().Int64() == d {
				l = append(l, v)
			}
		}
	}
	return l
}

// largeRates are rates with great denominators, up to the greatest one.
func largeRates() []*big.Rat {
	return numbers("1/1000", "999/1000", "499/1000", "499/997", "1/997", "996/997", "333/999", "729/1000", "127/512")
}

// exactly returns the probabilities of 0 to n failures, worked out trial by trial: k failures come from k before another trial that does not fail, or from k - 1 before one that does.
func exactly(n int, p *big.Rat) []*big.Rat {
	fails, all := p.Num(), p.Denom()
	good := new(big.Int).Sub(all, fails)
	many, ways := big.NewInt(1), []*big.Int{big.NewInt(1)}
	for range n {
		next := make([]*big.Int, len(ways)+1)
		for k := range next {
			next[k] = new(big.Int)
			if k < len(ways) {
				next[k].Mul(ways[k], good)
			}
			if k > 0 {
				next[k].Add(next[k], new(big.Int).Mul(ways[k-1], fails))
			}
		}
		many, ways = new(big.Int).Mul(many, all), next
	}
	var l []*big.Rat
	for _, w := range ways {
		l = append(l, over(w, many))
	}
	return l
}

// tailsOf returns the tails at 0 to n + 1.
func tailsOf(n int, p *big.Rat) []*big.Rat {
	l := []*big.Rat{new(big.Rat)}
	for _, x := range slices.Backward(exactly(n, p)) {
		l = append(l, plus(l[len(l)-1], x))
	}
	slices.Reverse(l)
	return l
}

// around returns of values those that are bounds, and the bounds just below and above them.
func around(values []*big.Rat) []*big.Rat {
	little := over(big.NewInt(1), power(300))
	var l []*big.Rat
	for _, v := range values {
		for _, near := range []*big.Rat{v, minus(v, little), plus(v, little)} {
			if isBound(near) {
				l = append(l, near)
			}
		}
	}
	return l
}

// extremes are bounds at both ends, and with the longest numbers.
func extremes() []*big.Rat {
	m := greatest()
	less := new(big.Int).Sub(m, big.NewInt(1))
	return []*big.Rat{number("0"), number("1"), number("1/2"), over(big.NewInt(1), m), over(less, m), over(power(1023), m), over(big.NewInt(1), power(1023))}
}

// critical returns the least k whose tail is at most a bound.
func critical(tailsOfAll []*big.Rat, bound *big.Rat) int {
	return slices.IndexFunc(tailsOfAll, func(tail *big.Rat) bool { return tail.Cmp(bound) <= 0 })
}

func checkFraction(t *testing.T, call string, x api.Ratio, e api.Errno, want *big.Rat) {
	t.Helper()
	if !equal(x, fraction(want)) || e != api.OK {
		t.Errorf("%s = %v, %d, want %s, 0", call, x, e, want.RatString())
	}
}

func checkNoFraction(t *testing.T, call string, x api.Ratio, e, want api.Errno) {
	t.Helper()
	if !equal(x, api.Ratio{}) || e != want {
		t.Errorf("%s = %v, %d, want nothing, %d", call, x, e, want)
	}
}

func checkChoose(t *testing.T, n, k int, want *big.Int, wantE api.Errno) {
	t.Helper()
	if x, e := tails.Choose(n, k); !slices.Equal(x, natOf(want)) || e != wantE {
		t.Errorf("Choose(%d, %d) = %v, %d, want %s, %d", n, k, x, e, want, wantE)
	}
}

func checkNumber(t *testing.T, call string, got int, e api.Errno, want int, wantE api.Errno) {
	t.Helper()
	if got != want || e != wantE {
		t.Errorf("%s = %d, %d, want %d, %d", call, got, e, want, wantE)
	}
}

// misfits are fractions that are not valid.
func misfits() []api.Ratio {
	one, beyond := api.Nat{1}, natOf(power(1024))
	return []api.Ratio{
		{}, {Neg: true}, {Num: one}, {Num: api.Nat{}, Den: api.Nat{}}, {Num: one, Den: api.Nat{0}}, {Num: api.Nat{0}, Den: one},
		{Num: api.Nat{0}, Den: api.Nat{0}}, {Num: api.Nat{1, 0}, Den: api.Nat{2}}, {Num: one, Den: api.Nat{2, 0}},
		{Num: api.Nat{2}, Den: api.Nat{4}}, {Num: api.Nat{3}, Den: api.Nat{3}}, {Den: api.Nat{2}}, {Den: api.Nat{0, 1}}, {Num: api.Nat{4}, Den: api.Nat{2}},
		{Neg: true, Den: one}, {Neg: true, Num: api.Nat{}, Den: one}, {Neg: true, Num: api.Nat{2}, Den: api.Nat{4}},
		{Num: one, Den: beyond}, {Num: beyond, Den: one}, {Num: natOf(greatest()), Den: beyond}, {Num: one, Den: slices.Repeat(api.Nat{7}, 1<<20)}, {Num: make(api.Nat, 1<<20), Den: one},
	}
}

// noBounds are valid fractions that are no bounds.
func noBounds() []api.Ratio {
	m, h := greatest(), power(1023)
	l := fractions("-1", "-1/2", "-1/1000", "-999/1000", "-2", "2", "3/2", "1001/1000", "1000/999", "-4294967297/4294967296", "4294967297/4294967296")
	for _, v := range []*big.Rat{over(m, h), over(m, big.NewInt(1)), over(m, new(big.Int).Sub(m, big.NewInt(1))), over(big.NewInt(-1), m)} {
		l = append(l, fraction(v))
	}
	return l
}

// noRates are valid fractions that are no rates: those that are no bounds, and bounds whose denominators are too great.
func noRates() []api.Ratio {
	l := append(noBounds(), fractions("1/1001", "1000/1001", "500/1001", "1/4294967296", "1/4294967297", "4294967297/4294968296", "1/18446744073709551617", "-1/1001", "1002/1001")...)
	return append(l, fraction(over(big.NewInt(1), greatest())), fraction(over(power(1023), greatest())))
}

// outside are numbers that are not from 0 to most.
func outside(most int) []int {
	return []int{-1, -2, -most - 1, most + 1, most + 2, most + 64, most + 1<<32, math.MaxInt, math.MaxInt - 1, math.MinInt, math.MinInt + 1}
}

// roomy returns a fraction of the same value with room behind its limbs, filled with 77.
func roomy(x api.Ratio) api.Ratio {
	x.Num = append(slices.Clone(x.Num), 77, 77)[:len(x.Num)]
	x.Den = append(slices.Clone(x.Den), 77, 77)[:len(x.Den)]
	return x
}

// checkUnspoilt checks that a fraction that roomy returned is still the same as another one, with its room.
func checkUnspoilt(t *testing.T, x, as api.Ratio) {
	t.Helper()
	room := func(n api.Nat) api.Nat { return append(slices.Clone(n), 77, 77) }
	if !slices.Equal(x.Num[:len(as.Num)+2], room(as.Num)) || !slices.Equal(x.Den[:len(as.Den)+2], room(as.Den)) {
		t.Errorf("the fraction %v was changed to %v", as, x)
	}
}

// spoil changes all the memory of a number.
func spoil(n api.Nat) {
	n = n[:cap(n)]
	for i := range n {
		n[i] = 7777
	}
}

// randomRate returns a rate.
func randomRate(r *rand.Rand) *big.Rat {
	den := 1 + r.Int63n(api.MaxDen)
	return big.NewRat(r.Int63n(den+1), den)
}
