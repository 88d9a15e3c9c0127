package ratio_test

import (
	"math"
	"math/big"
	"math/rand"
	"strconv"
	"testing"

	"majordomo/api"
	"majordomo/ratio"
)

// floor returns the greatest whole number that is at most v times d.
func floor(v *big.Rat, d int64) *big.Int {
	return new(big.Int).Div(new(big.Int).Mul(v.Num(), big.NewInt(d)), v.Denom())
}

// ceiling returns the least whole number that is at least v times d.
func ceiling(v *big.Rat, d int64) *big.Int {
	below := floor(new(big.Rat).Neg(v), d)
	return below.Neg(below)
}

// simplest returns the fraction from lo to hi with the least denominator of all, if it is at most most: it tries them all.
func simplest(lo, hi *big.Rat, most int64) *big.Rat {
	for d := int64(1); d <= most; d++ {
		least, greatest := ceiling(lo, d), floor(hi, d)
		switch {
		case least.Cmp(greatest) > 0:
			continue
		case least.Sign() <= 0 && greatest.Sign() >= 0:
			return new(big.Rat)
		case greatest.Sign() < 0:
			least = greatest
		}
		return new(big.Rat).SetFrac(least, big.NewInt(d))
	}
	return nil
}

// nearest returns the nearest one of all fractions with a denominator of at most den: it tries them all.
func nearest(v *big.Rat, den int64) *big.Rat {
	var best, least *big.Rat
	for d := int64(1); d <= den; d++ {
		for n := range int64(2) {
			w := new(big.Rat).SetFrac(new(big.Int).Add(floor(v, d), big.NewInt(n)), big.NewInt(d))
			far := new(big.Rat).Sub(v, w)
			far.Abs(far)
			if best == nil || far.Cmp(least) < 0 || far.Cmp(least) == 0 && w.Cmp(best) < 0 {
				best, least = w, far
			}
		}
	}
	return best
}

// P4.6: Simplest.

func TestSimplest(t *testing.T) {
	for _, c := range [][3]string{
		{"3/10", "1/3", "1/3"}, {"-1/3", "1/2", "0"}, {"5/2", "9/2", "3"}, {"31/10", "22/7", "22/7"},
		// lo and hi are equal
		{"0", "0", "0"}, {"1/2", "1/2", "1/2"}, {"-1/2", "-1/2", "-1/2"}, {"7", "7", "7"}, {"-7", "-7", "-7"}, {"355/113", "355/113", "355/113"}, {"M/2^1023", "M/2^1023", "M/2^1023"}, {"-2^1023/M", "-2^1023/M", "-2^1023/M"}, {"1/M", "1/M", "1/M"},
		// 0 is among them
		{"0", "1/2", "0"}, {"-1/2", "0", "0"}, {"0", "M", "0"}, {"-M", "0", "0"}, {"-M", "M", "0"}, {"-1/M", "1/M", "0"}, {"-1", "1", "0"}, {"-5", "1/7", "0"},
		// all are below 0
		{"-1/3", "-3/10", "-1/3"}, {"-9/2", "-5/2", "-3"}, {"-22/7", "-31/10", "-22/7"}, {"-1/2", "-1/M", "-1/2"}, {"-1", "-1/M", "-1"}, {"-M", "-1/2", "-1"}, {"-3", "-2", "-2"}, {"-3/4", "-2/3", "-2/3"},
		// the answer is an end
		{"2", "3", "2"}, {"1/2", "2/3", "1/2"}, {"1/3", "2/5", "1/3"}, {"2/5", "1/2", "1/2"}, {"1/M", "1/M-1", "1/M-1"}, {"7/5", "10/7", "7/5"}, {"5/2", "3", "3"}, {"M-1", "M", "M-1"}, {"-M", "-M-1", "-M-1"},
		// it is within
		{"1/3", "3/4", "1/2"}, {"14/10", "15/10", "3/2"}, {"141/100", "142/100", "17/12"}, {"1/M", "1", "1"}, {"1/M", "M-1/M", "1/2"}, {"M-2/M-1", "M-1/M", "M-2/M-1"}, {"1/2^1023", "1/2^1022", "1/2^1022"}, {"31415926535/10000000000", "31415926536/10000000000", "521030/165849"},

		{"1/2", "1/3", "ErrRange"}, {"1", "0", "ErrRange"}, {"0", "-1", "ErrRange"}, {"1/2", "-1/2", "ErrRange"}, {"-1/3", "-1/2", "ErrRange"}, {"M", "M-1", "ErrRange"}, {"1/M-1", "1/M", "ErrRange"}, {"M-1/M", "M-2/M-1", "ErrRange"},
	} {
		x, e := ratio.Simplest(frac(c[0]), frac(c[1]))
		checkText(t, "Simplest("+c[0]+", "+c[1]+")", x, e, c[2])
	}
}

func checkSimplest(t *testing.T, lo, hi, want *big.Rat) {
	t.Helper()
	x, e := ratio.Simplest(fraction(lo), fraction(hi))
	checkValue(t, "Simplest("+short(fraction(lo))+", "+short(fraction(hi))+")", x, e, want)
}

func TestSimplestOfSmallValues(t *testing.T) {
	values := smallValues(2, 8)
	for _, lo := range values {
		for _, hi := range values {
			if lo.Cmp(hi) <= 0 {
				checkSimplest(t, lo, hi, simplest(lo, hi, 8))
			} else if x, e := ratio.Simplest(fraction(lo), fraction(hi)); !equal(x, api.Ratio{}) || e != api.ErrRange {
				t.Errorf("Simplest(%s, %s) = %s, %d, want ErrRange", lo, hi, short(x), e)
			}
		}
	}
}

func TestSimplestOfIntervalsAroundSmallValues(t *testing.T) {
	r := rand.New(rand.NewSource(8))
	for range 3000 {
		v := big.NewRat(r.Int63n(2000)-1000, 1+r.Int63n(300))
		reach := func() *big.Rat {
			return new(big.Rat).SetFrac(randomWhole(r, 1), power(uint(16+r.Intn(900))))
		}
		lo, hi := new(big.Rat).Sub(v, reach()), new(big.Rat).Add(v, reach())
		if fits(lo) && fits(hi) {
			checkSimplest(t, lo, hi, simplest(lo, hi, 300))
		}
	}
}

// parents returns the two fractions between which v, which is above 0, is the simplest; the greater one of a whole number is 1/0, and not returned.
func parents(v *big.Rat) []*big.Rat {
	if v.IsInt() {
		return []*big.Rat{new(big.Rat).Sub(v, big.NewRat(1, 1))}
	}
	den := new(big.Int).ModInverse(v.Num(), v.Denom())
	num := new(big.Int).Mul(den, v.Num())
	num.Div(num, v.Denom())
	lesser := new(big.Rat).SetFrac(num, den)
	greater := new(big.Rat).SetFrac(new(big.Int).Sub(v.Num(), num), new(big.Int).Sub(v.Denom(), den))
	return []*big.Rat{lesser, greater}
}

func within(v, lo, hi *big.Rat) bool { return lo.Cmp(v) <= 0 && v.Cmp(hi) <= 0 }

func TestSimplestOfLongValues(t *testing.T) {
	r := rand.New(rand.NewSource(9))
	for i := range 1500 {
		lo := randomValue(r, 1+i%32)
		hi := randomValue(r, 1+i%32)
		if i%3 > 0 { // close to each other
			hi.Add(lo, new(big.Rat).SetFrac(big.NewInt(1), power(uint(r.Intn(1024)))))
		}
		if lo.Cmp(hi) > 0 {
			lo, hi = hi, lo
		}
		if !fits(lo) || !fits(hi) {
			continue
		}
		x, e := ratio.Simplest(fraction(lo), fraction(hi))
		if e != api.OK || !ratio.Valid(x) || !within(valueOf(x), lo, hi) {
			t.Fatalf("Simplest(%s, %s) = %s, %d", lo, hi, short(x), e)
		}
		if within(new(big.Rat), lo, hi) {
			checkValue(t, "Simplest of an interval with 0", x, e, new(big.Rat))
			continue
		}
		if x.Neg {
			lo, hi = new(big.Rat).Neg(hi), new(big.Rat).Neg(lo)
			x.Neg = false
		}
		for _, p := range parents(valueOf(x)) {
			if within(p, lo, hi) {
				t.Fatalf("Simplest(%s, %s) = %s, but %s is simpler", lo, hi, short(x), p)
			}
		}
	}
}

// P4.7: Nearest.

func TestNearest(t *testing.T) {
	for _, c := range []struct {
		x    string
		den  int
		want string
	}{
		{"314159/100000", 10, "22/7"}, {"1/2", 1, "0"}, {"-1/2", 1, "-1"},
		{"0", 1, "0"}, {"0", 1000, "0"}, {"7", 1, "7"}, {"-7", 1, "-7"}, {"-7", 1000, "-7"}, {"M", 1, "M"}, {"-M", 1000, "-M"},
		{"2/5", 1, "0"}, {"3/5", 1, "1"}, {"-2/5", 1, "0"}, {"-3/5", 1, "-1"}, {"3/2", 1, "1"}, {"-3/2", 1, "-2"}, {"5/2", 1, "2"}, {"1/3", 1, "0"}, {"M/2", 1, "2^1023-1"}, {"-M/2", 1, "-2^1023"}, {"1/M", 1, "0"}, {"-1/M", 1, "0"}, {"M-1/M", 1, "1"},
		{"M/2", 2, "M/2"}, {"1/1000", 1000, "1/1000"}, {"999/1000", 1000, "999/1000"}, {"-1/1000", 999, "-1/999"}, {"1/1001", 1000, "1/1000"}, {"1/2000", 1000, "0"}, {"-1/2000", 1000, "-1/1000"}, {"1/1999", 1000, "1/1000"}, {"1/2001", 1000, "0"}, {"1/M", 1000, "0"}, {"-1/M", 1000, "0"}, {"M-1/M", 1000, "1"}, {"M/2^1023", 1000, "2"},
		{"314159265358979/100000000000000", 1000, "355/113"}, {"314159265358979/100000000000000", 112, "333/106"}, {"314159265358979/100000000000000", 105, "311/99"}, {"-314159265358979/100000000000000", 1000, "-355/113"},
		// two are as close
		{"5/12", 3, "1/3"}, {"-5/12", 3, "-1/2"}, {"1/4", 2, "0"}, {"-1/4", 2, "-1/2"}, {"3/4", 2, "1/2"}, {"-3/4", 2, "-1"}, {"7/12", 3, "1/2"}, {"-7/12", 3, "-2/3"}, {"1999/1998000", 1000, "1/1000"}, {"-1999/1998000", 1000, "-1/999"},

		{"1/2", 0, "ErrRange"}, {"1/2", 1001, "ErrRange"}, {"1/2", -1, "ErrRange"}, {"1/2", math.MinInt, "ErrRange"}, {"1/2", math.MaxInt, "ErrRange"}, {"0", 0, "ErrRange"}, {"7", 1001, "ErrRange"}, {"7", 1<<32 + 1, "ErrRange"},
	} {
		x, e := ratio.Nearest(frac(c.x), c.den)
		checkText(t, "Nearest("+c.x+", "+strconv.Itoa(c.den)+")", x, e, c.want)
	}
}

func checkNearest(t *testing.T, v *big.Rat, den int) {
	t.Helper()
	x, e := ratio.Nearest(fraction(v), den)
	checkValue(t, "Nearest("+short(fraction(v))+", "+strconv.Itoa(den)+")", x, e, nearest(v, int64(den)))
}

func TestNearestOfSmallValues(t *testing.T) {
	for _, v := range smallValues(2, 30) {
		for den := 1; den <= 12; den++ {
			checkNearest(t, v, den)
		}
	}
}

func TestNearestOfValuesBetweenTwo(t *testing.T) {
	r := rand.New(rand.NewSource(10))
	for range 2000 {
		den := 1 + r.Intn(40)
		v := big.NewRat(r.Int63n(200)-100, 1+r.Int63n(int64(den)))
		w := nearest(new(big.Rat).Add(v, big.NewRat(1, 1000000)), int64(den))
		middle := new(big.Rat).Add(v, w)
		checkNearest(t, middle.Mul(middle, big.NewRat(1, 2)), den)
	}
}

func TestNearestOfRandomValues(t *testing.T) {
	r := rand.New(rand.NewSource(11))
	for i := range 600 {
		checkNearest(t, randomValue(r, 1+i%32), 1+r.Intn(60))
	}
	for i := range 40 {
		checkNearest(t, randomValue(r, 1+i%32), 1000-r.Intn(2))
	}
}
