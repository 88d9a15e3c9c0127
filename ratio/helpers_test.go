package ratio_test

import (
	"math"
	"math/big"
	"math/rand"
	"slices"
	"strings"
	"testing"

	"majordomo/api"
)

// natOf returns a number by limbs.
func natOf(n *big.Int) api.Nat {
	var l api.Nat
	for rest := new(big.Int).Set(n); rest.Sign() > 0; rest.Rsh(rest, 32) {
		l = append(l, uint32(new(big.Int).And(rest, big.NewInt(math.MaxUint32)).Uint64()))
	}
	return l
}

func bigOf(n api.Nat) *big.Int {
	b := new(big.Int)
	for i, limb := range n {
		b.Or(b, new(big.Int).Lsh(big.NewInt(int64(limb)), uint(32*i)))
	}
	return b
}

// fraction returns the fraction of a value, however many limbs it has.
func fraction(v *big.Rat) api.Ratio {
	return api.Ratio{Neg: v.Sign() < 0, Num: natOf(new(big.Int).Abs(v.Num())), Den: natOf(v.Denom())}
}

func valueOf(x api.Ratio) *big.Rat {
	v := new(big.Rat).SetFrac(bigOf(x.Num), bigOf(x.Den))
	if x.Neg {
		v.Neg(v)
	}
	return v
}

// fits reports whether a value has a valid fraction.
func fits(v *big.Rat) bool { return v.Num().BitLen() <= 1024 && v.Denom().BitLen() <= 1024 }

// power returns a power of 2.
func power(exponent uint) *big.Int { return new(big.Int).Lsh(big.NewInt(1), exponent) }

// whole returns a whole number: decimal digits, 2^ and an exponent, M, which is 2^1024 - 1, the greatest number of 32 limbs, or a difference of two of these.
func whole(s string) *big.Int {
	if a, b, is := strings.Cut(s, "-"); is {
		return new(big.Int).Sub(whole(a), whole(b))
	}
	if s == "M" {
		return new(big.Int).Sub(power(1024), big.NewInt(1))
	}
	if exponent, is := strings.CutPrefix(s, "2^"); is {
		return power(uint(whole(exponent).Uint64()))
	}
	n, ok := new(big.Int).SetString(s, 10)
	if !ok {
		panic("no number: " + s)
	}
	return n
}

// number returns the value of a text such as -3/4, 5 or M-1/2^7 (where / comes last).
func number(s string) *big.Rat {
	s, neg := strings.CutPrefix(s, "-")
	num, den, there := strings.Cut(s, "/")
	if !there {
		den = "1"
	}
	v := new(big.Rat).SetFrac(whole(num), whole(den))
	if neg {
		v.Neg(v)
	}
	return v
}

// frac returns the fraction of such a text.
func frac(s string) api.Ratio { return fraction(number(s)) }

func equal(x, y api.Ratio) bool {
	return x.Neg == y.Neg && slices.Equal(x.Num, y.Num) && slices.Equal(x.Den, y.Den)
}

// short writes a fraction for the messages of tests.
func short(x api.Ratio) string {
	switch {
	case len(x.Den) == 0:
		return "nothing"
	case len(x.Num) > 64 || len(x.Den) > 64:
		return "something very long"
	case bigOf(x.Den).Sign() == 0:
		return "something with a Den of 0"
	}
	s := valueOf(x).RatString()
	if len(s) > 80 {
		return s[:30] + ".." + s[len(s)-30:]
	}
	return s
}

// errno returns the error of a name.
func errno(name string) (api.Errno, bool) {
	e, is := map[string]api.Errno{"ErrArg": api.ErrArg, "ErrRange": api.ErrRange, "ErrLimit": api.ErrLimit, "ErrSyntax": api.ErrSyntax}[name]
	return e, is
}

// checkValue checks that a result is a value.
func checkValue(t *testing.T, call string, x api.Ratio, e api.Errno, want *big.Rat) {
	t.Helper()
	if !equal(x, fraction(want)) || e != api.OK {
		t.Errorf("%s = %s, %d, want %s, 0", call, short(x), e, short(fraction(want)))
	}
}

// checkError checks that there is an error, and no result.
func checkError(t *testing.T, call string, x api.Ratio, e, want api.Errno) {
	t.Helper()
	if !equal(x, api.Ratio{}) || e != want {
		t.Errorf("%s = %s, %d, want nothing, %d", call, short(x), e, want)
	}
}

// checkText checks a result against the text of a number, or the name of an error.
func checkText(t *testing.T, call string, x api.Ratio, e api.Errno, want string) {
	t.Helper()
	if wantE, is := errno(want); is {
		checkError(t, call, x, e, wantE)
		return
	}
	checkValue(t, call, x, e, number(want))
}

// samples are texts of fractions, for frac.
func samples() []string {
	l := []string{"0", "1", "2", "1/2", "3/2", "2/3", "22/7", "4294967295", "2^32", "1/4294967295", "1/2^32", "2^32/4294967297",
		"2^64/3", "7/2^64", "2^512/3", "M", "1/M", "M/2", "2/M", "2^1023", "1/2^1023", "M/2^1023", "2^1023/M"}
	for _, s := range l[1:] {
		l = append(l, "-"+s)
	}
	return l
}

// misfit is a fraction that is not valid, and why it is not.
type misfit struct {
	why string
	x   api.Ratio
}

func misfits() []misfit {
	one, most, beyond := api.Nat{1}, natOf(whole("M")), natOf(power(1024))
	ended := make(api.Nat, 33)
	ended[0] = 1
	return []misfit{
		{"no limbs", api.Ratio{}},
		{"no limbs, below 0", api.Ratio{Neg: true}},
		{"Den 0", api.Ratio{Num: one}},
		{"Den 0, empty lists", api.Ratio{Num: api.Nat{}, Den: api.Nat{}}},
		{"Den is a limb 0", api.Ratio{Num: one, Den: api.Nat{0}}},
		{"Num is a limb 0", api.Ratio{Num: api.Nat{0}, Den: one}},
		{"Num and Den are limbs 0", api.Ratio{Num: api.Nat{0}, Den: api.Nat{0}}},
		{"Num ends in 0", api.Ratio{Num: api.Nat{3, 0}, Den: api.Nat{2}}},
		{"Den ends in 0", api.Ratio{Num: api.Nat{3}, Den: api.Nat{2, 0}}},
		{"Num ends in 0 behind others", api.Ratio{Num: api.Nat{3, 1, 0}, Den: one}},
		{"Den ends in 0 behind others", api.Ratio{Num: one, Den: api.Nat{3, 1, 0, 0}}},
		{"3/6", api.Ratio{Num: api.Nat{3}, Den: api.Nat{6}}},
		{"4/2", api.Ratio{Num: api.Nat{4}, Den: api.Nat{2}}},
		{"-6/4", api.Ratio{Neg: true, Num: api.Nat{6}, Den: api.Nat{4}}},
		{"7/7", api.Ratio{Num: api.Nat{7}, Den: api.Nat{7}}},
		{"0/2", api.Ratio{Den: api.Nat{2}}},
		{"0/2^32", api.Ratio{Den: api.Nat{0, 1}}},
		{"2^32/2^32", api.Ratio{Num: api.Nat{0, 1}, Den: api.Nat{0, 1}}},
		{"2^64/2^32", api.Ratio{Num: api.Nat{0, 0, 1}, Den: api.Nat{0, 1}}},
		{"M/M", api.Ratio{Num: most, Den: most}},
		{"M/3", api.Ratio{Num: most, Den: api.Nat{3}}},
		{"-0", api.Ratio{Neg: true, Den: one}},
		{"-0 with an empty list", api.Ratio{Neg: true, Num: api.Nat{}, Den: one}},
		{"Num of 33 limbs", api.Ratio{Num: beyond, Den: one}},
		{"Den of 33 limbs", api.Ratio{Num: one, Den: beyond}},
		{"Num of 33 limbs that ends in 0", api.Ratio{Num: ended, Den: one}},
		{"Den of 33 limbs that ends in 0", api.Ratio{Num: one, Den: ended}},
		{"Num of very many limbs", api.Ratio{Num: make(api.Nat, 1<<20), Den: one}},
		{"Den of very many limbs", api.Ratio{Num: one, Den: slices.Repeat(api.Nat{7}, 1<<20)}},
	}
}

// randomWhole returns a number of at most so many limbs, of which some have all their bits 0 or 1.
func randomWhole(r *rand.Rand, limbs int) *big.Int {
	n := make(api.Nat, r.Intn(limbs+1))
	for i := range n {
		n[i] = [...]uint32{0, math.MaxUint32, 1 << 31, 1, r.Uint32(), r.Uint32(), r.Uint32(), r.Uint32() >> 20}[r.Intn(8)]
	}
	return bigOf(n)
}

// randomValue returns a value whose fraction has at most so many limbs in Num and in Den.
func randomValue(r *rand.Rand, limbs int) *big.Rat {
	den := randomWhole(r, limbs)
	if den.Sign() == 0 {
		den.SetInt64(1)
	}
	v := new(big.Rat).SetFrac(randomWhole(r, limbs), den)
	if r.Intn(2) == 0 {
		v.Neg(v)
	}
	return v
}

// smallValues are all values from -most to most with denominators of at most den.
func smallValues(most, den int64) []*big.Rat {
	var l []*big.Rat
	for d := int64(1); d <= den; d++ {
		for n := -most * d; n <= most*d; n++ {
			if v := big.NewRat(n, d); v.Denom().Int64() == d {
				l = append(l, v)
			}
		}
	}
	return l
}
