package tails_test

import (
	"math/big"
	"math/rand"
	"slices"
	"strconv"
	"testing"

	"majordomo/api"
	"majordomo/ratio"
	"majordomo/tails"
)

// called writes a call with whole numbers for the messages of tests.
func called(name string, arguments ...int) string {
	s := name
	for _, n := range arguments {
		s += " " + strconv.Itoa(n)
	}
	return s
}

// P11.1: Choose and Exactly.

func TestExamplesOfChooseAndExactly(t *testing.T) {
	checkChoose(t, 5, 2, big.NewInt(10), api.OK)
	checkChoose(t, 64, 32, big.NewInt(1832624140942590534), api.OK)
	checkChoose(t, 5, 6, new(big.Int), api.ErrRange)
	x, e := tails.Exactly(4, 1, frac("1/3"))
	checkFraction(t, "Exactly(4, 1, 1/3)", x, e, number("32/81"))
}

func TestChoose(t *testing.T) {
	for n := range api.MaxTrials + 1 {
		for k := range n + 1 {
			checkChoose(t, n, k, new(big.Int).Binomial(int64(n), int64(k)), api.OK)
		}
		for _, k := range outside(n) {
			checkChoose(t, n, k, new(big.Int), api.ErrRange)
		}
	}
	for _, n := range outside(api.MaxTrials) {
		for _, k := range []int{0, 1, n, n - 1, n + 1, 32, 64} {
			checkChoose(t, n, k, new(big.Int), api.ErrRange)
		}
	}
}

func checkExactly(t *testing.T, n int, p *big.Rat) {
	t.Helper()
	for k, want := range exactly(n, p) {
		x, e := tails.Exactly(n, k, fraction(p))
		checkFraction(t, called("Exactly", n, k)+" of "+p.RatString(), x, e, want)
	}
}

func TestExactlyOfFewTrials(t *testing.T) {
	for n := range 9 {
		for _, p := range smallRates(10) {
			checkExactly(t, n, p)
		}
	}
}

func TestExactlyOfManyTrials(t *testing.T) {
	for _, n := range []int{9, 16, 31, 32, 33, 63, 64} {
		for _, p := range append(smallRates(3), largeRates()...) {
			checkExactly(t, n, p)
		}
	}
}

func TestExactlyOfRandomTrials(t *testing.T) {
	r := rand.New(rand.NewSource(1))
	for range 100 {
		checkExactly(t, r.Intn(api.MaxTrials+1), randomRate(r))
	}
}

// TestSureTrials holds that with the rate 0 none fails and with 1 all do, x to the power of 0 being 1.
func TestSureTrials(t *testing.T) {
	is := map[bool]*big.Rat{true: number("1"), false: number("0")}
	for n := range api.MaxTrials + 1 {
		for k := range n + 1 {
			x, e := tails.Exactly(n, k, frac("0"))
			checkFraction(t, called("Exactly", n, k)+" of 0", x, e, is[k == 0])
			x, e = tails.Exactly(n, k, frac("1"))
			checkFraction(t, called("Exactly", n, k)+" of 1", x, e, is[k == n])
			x, e = tails.Tail(n, k, frac("0"))
			checkFraction(t, called("Tail", n, k)+" of 0", x, e, is[k == 0])
			x, e = tails.Tail(n, k, frac("1"))
			checkFraction(t, called("Tail", n, k)+" of 1", x, e, is[true])
		}
	}
}

// P11.2: Tail.

func TestExamplesOfTail(t *testing.T) {
	for _, c := range []struct {
		n, k    int
		p, want string
	}{{4, 1, "1/3", "65/81"}, {4, 5, "1/3", "0"}, {0, 0, "0", "1"}, {0, 1, "0", "0"}, {0, 0, "1", "1"}, {0, 1, "1", "0"}, {1, 1, "1/1000", "1/1000"}, {2, 1, "1/2", "3/4"}} {
		x, e := tails.Tail(c.n, c.k, frac(c.p))
		checkFraction(t, called("Tail", c.n, c.k)+" of "+c.p, x, e, number(c.want))
	}
}

func checkTail(t *testing.T, n int, p *big.Rat) {
	t.Helper()
	for k, want := range tailsOf(n, p) {
		x, e := tails.Tail(n, k, fraction(p))
		checkFraction(t, called("Tail", n, k)+" of "+p.RatString(), x, e, want)
	}
}

func TestTailOfFewTrials(t *testing.T) {
	for n := range 9 {
		for _, p := range smallRates(10) {
			checkTail(t, n, p)
		}
	}
}

func TestTailOfManyTrials(t *testing.T) {
	for _, n := range []int{9, 16, 31, 32, 33, 63, 64} {
		for _, p := range append(smallRates(3), largeRates()...) {
			checkTail(t, n, p)
		}
	}
}

func TestTailOfRandomTrials(t *testing.T) {
	r := rand.New(rand.NewSource(2))
	for range 60 {
		checkTail(t, r.Intn(api.MaxTrials+1), randomRate(r))
	}
}

// P11.3: Critical.

func TestExamplesOfCritical(t *testing.T) {
	for _, c := range []struct {
		n        int
		p, bound string
		want     int
	}{{4, "1/3", "1/10", 4}, {4, "1/3", "1/81", 4}, {4, "1/3", "0", 5}, {4, "0", "0", 1}, {4, "0", "1", 0}, {4, "1", "999/1000", 5}, {4, "1", "1", 0}, {0, "1/2", "1", 0}, {0, "1/2", "1/2", 1}, {0, "0", "0", 1}} {
		k, e := tails.Critical(c.n, frac(c.p), frac(c.bound))
		checkNumber(t, called("Critical", c.n)+" of "+c.p+" with "+c.bound, k, e, c.want, api.OK)
	}
}

func checkCritical(t *testing.T, n int, p *big.Rat, bounds []*big.Rat) {
	t.Helper()
	all := tailsOf(n, p)
	for _, bound := range bounds {
		k, e := tails.Critical(n, fraction(p), fraction(bound))
		checkNumber(t, called("Critical", n)+" of "+p.RatString()+" with "+bound.RatString(), k, e, critical(all, bound), api.OK)
	}
}

func TestCriticalOfFewTrials(t *testing.T) {
	for n := range 7 {
		for _, p := range smallRates(6) {
			checkCritical(t, n, p, slices.Concat(around(tailsOf(n, p)), extremes(), smallRates(4)))
		}
	}
}

func TestCriticalOfManyTrials(t *testing.T) {
	for _, n := range []int{16, 63, 64} {
		for _, p := range append(largeRates()[:4], smallRates(2)...) {
			all := tailsOf(n, p)
			some := []*big.Rat{all[0], all[1], all[n/4], all[n/2], all[n-1], all[n], all[n+1]}
			checkCritical(t, n, p, slices.Concat(around(some), extremes(), smallRates(3)))
		}
	}
}

func TestCriticalOfRandomTrials(t *testing.T) {
	r := rand.New(rand.NewSource(3))
	for range 200 {
		n, p := r.Intn(api.MaxTrials+1), randomRate(r)
		all := tailsOf(n, p)
		checkCritical(t, n, p, append(around(all[r.Intn(n+2):][:1]), randomRate(r)))
	}
}

// P11.4: Upper.

func TestExamplesOfUpper(t *testing.T) {
	for _, c := range []struct {
		n, k  int
		bound string
		den   int
		want  int
		e     api.Errno
	}{
		{4, 1, "1/2", 10, 2, api.OK}, {4, 4, "1/2", 10, 9, api.OK}, {4, 5, "0", 10, 0, api.ErrNone}, {4, 0, "1/2", 10, 0, api.OK},
		{4, 0, "1", 10, 0, api.ErrNone}, {4, 4, "1", 10, 0, api.ErrNone}, {4, 4, "0", 10, 1, api.OK}, {4, 4, "9999/10000", 10, 10, api.OK}, {4, 4, "6561/10000", 10, 10, api.OK}, {4, 4, "6560/10000", 10, 9, api.OK},
		{0, 0, "999/1000", 1, 0, api.OK}, {0, 0, "1", 1, 0, api.ErrNone}, {0, 1, "0", 1, 0, api.ErrNone}, {1, 1, "0", 1, 1, api.OK}, {1, 1, "1/2", 1, 1, api.OK}, {1, 1, "1", 1, 0, api.ErrNone},
		{1, 1, "0", 1000, 1, api.OK}, {1, 1, "999/1000", 1000, 1000, api.OK}, {1, 1, "998/1000", 1000, 999, api.OK}, {1, 1, "1/3", 1000, 334, api.OK},
	} {
		j, e := tails.Upper(c.n, c.k, frac(c.bound), c.den)
		checkNumber(t, called("Upper", c.n, c.k)+" with "+c.bound+called(" of", c.den), j, e, c.want, c.e)
	}
}

// checkUpper checks Upper, where the tails with all rates from 0 to den / den are known.
func checkUpper(t *testing.T, n, k, den int, tailsOfRates, bounds []*big.Rat) {
	t.Helper()
	for _, bound := range bounds {
		isAbove := func(tail *big.Rat) bool { return tail.Cmp(bound) > 0 }
		want, wantE := slices.IndexFunc(tailsOfRates, isAbove), api.OK
		if want < 0 {
			want, wantE = 0, api.ErrNone
		}
		j, e := tails.Upper(n, k, fraction(bound), den)
		checkNumber(t, called("Upper", n, k)+" with "+bound.RatString()+called(" of", den), j, e, want, wantE)
	}
}

func TestUpperOfFewTrials(t *testing.T) {
	for n := range 6 {
		for den := 1; den <= 9; den++ {
			var all [][]*big.Rat // by rates
			for j := range den + 1 {
				all = append(all, tailsOf(n, big.NewRat(int64(j), int64(den))))
			}
			for k := range n + 2 {
				var tailsOfRates []*big.Rat
				for _, l := range all {
					tailsOfRates = append(tailsOfRates, l[k])
				}
				checkUpper(t, n, k, den, tailsOfRates, slices.Concat(around(tailsOfRates), extremes()))
			}
		}
	}
}

// checkUpperAt checks Upper with the bound that is the tail with the rate j / den, and with the bounds just below and above it; k is from 1 to n.
func checkUpperAt(t *testing.T, n, k, j, den int) {
	t.Helper()
	tail := tailsOf(n, big.NewRat(int64(j), int64(den)))[k]
	little := over(big.NewInt(1), power(300))
	for _, c := range []struct {
		bound *big.Rat
		want  int
	}{{tail, j + 1}, {minus(tail, little), j}, {plus(tail, little), j + 1}} {
		want, wantE := c.want, api.OK
		if want > den {
			want, wantE = 0, api.ErrNone
		}
		if isBound(c.bound) {
			got, e := tails.Upper(n, k, fraction(c.bound), den)
			checkNumber(t, called("Upper", n, k)+" with "+c.bound.RatString()+called(" of", den), got, e, want, wantE)
		}
	}
}

func TestUpperOfManyTrials(t *testing.T) {
	for _, den := range []int{1000, 997, 640} {
		for _, j := range []int{den / 2, den/2 + 1, den * 9 / 10, den - 1, den} {
			for _, k := range []int{1, 2, 31, 32, 33, 63, 64} {
				if j < den*9/10 || k > 2 { // else the tails are too close to 1
					checkUpperAt(t, 64, k, j, den)
				}
			}
		}
		for _, j := range []int{1, 2, den / 4} {
			checkUpperAt(t, 64, 1, j, den)
			checkUpperAt(t, 64, 7, j, den)
		}
	}
}

func TestUpperOfRandomTrials(t *testing.T) {
	r := rand.New(rand.NewSource(4))
	for range 150 {
		n, den := 1+r.Intn(24), 1+r.Intn(api.MaxDen)
		checkUpperAt(t, n, 1+r.Intn(n), 1+r.Intn(den), den)
	}
}

// Bounds with the longest numbers are held against tails exactly.
func TestLongestBounds(t *testing.T) {
	little := over(big.NewInt(1), new(big.Int).Sub(greatest(), big.NewInt(2)))
	half := minus(number("1/2"), over(big.NewInt(1), power(1023))) // a little less
	for _, c := range []struct {
		bound *big.Rat
		k, j  int
	}{{half, 2, 500}, {number("1/2"), 1, 501}, {little, 2, 1}, {minus(number("1"), little), 1, 1000}} {
		k, e := tails.Critical(1, frac("1/2"), fraction(c.bound))
		checkNumber(t, "Critical(1, 1/2) with "+c.bound.RatString(), k, e, c.k, api.OK)
		j, e := tails.Upper(1, 1, fraction(c.bound), 1000)
		checkNumber(t, "Upper(1, 1) with "+c.bound.RatString()+" of 1000", j, e, c.j, api.OK)
	}
	if x, _ := tails.Exactly(64, 32, frac("499/997")); !ratio.Valid(x) || len(x.Den) != 20 {
		t.Errorf("Exactly(64, 32, 499/997) has a Den of %d limbs, want 20", len(x.Den))
	}
}
