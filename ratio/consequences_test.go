package ratio_test

import (
	"math"
	"math/big"
	"math/rand"
	"slices"
	"testing"

	"majordomo/api"
	"majordomo/ratio"
)

// P4.8: the consequences.

// must returns a result that may not be an error.
func must(t *testing.T) func(x api.Ratio, e api.Errno) api.Ratio {
	return func(x api.Ratio, e api.Errno) api.Ratio {
		t.Helper()
		if e != api.OK || !ratio.Valid(x) {
			t.Fatalf("%s, %d", short(x), e)
		}
		return x
	}
}

func checkEqual(t *testing.T, what string, x, y api.Ratio) {
	t.Helper()
	if !equal(x, y) {
		t.Errorf("%s: %s and %s", what, short(x), short(y))
	}
}

func TestConsequencesOfOperations(t *testing.T) {
	r := rand.New(rand.NewSource(12))
	ok := must(t)
	for i := range 1500 {
		limbs := 1 + i%5 // six factors have 30 limbs at most
		x, y, z := fraction(randomValue(r, limbs)), fraction(randomValue(r, limbs)), fraction(randomValue(r, limbs))
		checkEqual(t, "x + y", ok(ratio.Add(x, y)), ok(ratio.Add(y, x)))
		checkEqual(t, "x * y", ok(ratio.Mul(x, y)), ok(ratio.Mul(y, x)))
		checkEqual(t, "x + y + z", ok(ratio.Add(ok(ratio.Add(x, y)), z)), ok(ratio.Add(x, ok(ratio.Add(y, z)))))
		checkEqual(t, "x * y * z", ok(ratio.Mul(ok(ratio.Mul(x, y)), z)), ok(ratio.Mul(x, ok(ratio.Mul(y, z)))))
		checkEqual(t, "x * (y + z)", ok(ratio.Mul(x, ok(ratio.Add(y, z)))), ok(ratio.Add(ok(ratio.Mul(x, y)), ok(ratio.Mul(x, z)))))
		checkEqual(t, "x - y + y", ok(ratio.Add(ok(ratio.Sub(x, y)), y)), x)
		checkEqual(t, "x - x", ok(ratio.Sub(x, x)), frac("0"))
		if len(x.Num) > 0 {
			checkEqual(t, "x / x", ok(ratio.Div(x, x)), frac("1"))
			checkEqual(t, "y / x * x", ok(ratio.Mul(ok(ratio.Div(y, x)), x)), y)
		}
		checkOrder(t, x, y)
		checkOrder(t, x, x)
	}
}

// checkOrder checks that Cmp is the sign of the difference.
func checkOrder(t *testing.T, x, y api.Ratio) {
	t.Helper()
	d := must(t)(ratio.Sub(x, y))
	c, e := ratio.Cmp(x, y)
	if e != api.OK || c != valueOf(d).Sign() {
		t.Errorf("Cmp(%s, %s) = %d, %d, the difference is %s", short(x), short(y), c, e, short(d))
	}
}

func TestConsequencesOfLongValues(t *testing.T) {
	ok := must(t)
	for _, s := range samples() {
		x := frac(s)
		checkEqual(t, "Read of Text of "+s, ok(ratio.Read(ratio.Text(x))), x)
		checkEqual(t, s+" - itself", ok(ratio.Sub(x, x)), frac("0"))
		if len(x.Num) > 0 {
			checkEqual(t, s+" / itself", ok(ratio.Div(x, x)), frac("1"))
		}
		checkEqual(t, "Simplest from and to "+s, ok(ratio.Simplest(x, x)), x)
	}
}

func TestConsequencesOfWholes(t *testing.T) {
	r := rand.New(rand.NewSource(13))
	for range 2000 {
		n := int(r.Uint64()) >> r.Intn(64)
		x := must(t)(ratio.Of(n, 1))
		if got, e := ratio.Int(x); got != n || e != api.OK {
			t.Errorf("Int of Of(%d, 1) = %d, %d", n, got, e)
		}
		checkEqual(t, "Floor of a whole number", must(t)(ratio.Floor(x)), x)
		checkEqual(t, "Nearest of a whole number", must(t)(ratio.Nearest(x, 1+r.Intn(1000))), x)
	}
}

func TestNearestOfSmallDenominators(t *testing.T) {
	r := rand.New(rand.NewSource(14))
	for range 2000 {
		d := 1 + r.Intn(1000)
		x := must(t)(ratio.Of(r.Intn(100000)-50000, d))
		checkEqual(t, "Nearest of itself", must(t)(ratio.Nearest(x, d)), x)
	}
}

// P4.1 to P4.7: a fraction that is not valid is ErrArg, before all else.

// call is a call of a function with one or two fractions; with others it has another error or none.
type call struct {
	name string
	with func(x, y api.Ratio) (api.Ratio, api.Errno)
	both bool // y matters
}

func calls() []call {
	nearest := func(den int) func(x, y api.Ratio) (api.Ratio, api.Errno) {
		return func(x, y api.Ratio) (api.Ratio, api.Errno) { return ratio.Nearest(x, den) }
	}
	// number turns an int with an error into a fraction with one, which is the zero value only if the int is 0.
	number := func(n int, e api.Errno) (api.Ratio, api.Errno) {
		if n == 0 {
			return api.Ratio{}, e
		}
		return frac("1"), e
	}
	return []call{
		{"Add", ratio.Add, true},
		{"Sub", ratio.Sub, true},
		{"Mul", ratio.Mul, true},
		{"Div", ratio.Div, true},
		{"Simplest", ratio.Simplest, true},
		{"Cmp", func(x, y api.Ratio) (api.Ratio, api.Errno) { return number(ratio.Cmp(x, y)) }, true},
		{"Int", func(x, y api.Ratio) (api.Ratio, api.Errno) { return number(ratio.Int(x)) }, false},
		{"Floor", func(x, y api.Ratio) (api.Ratio, api.Errno) { return ratio.Floor(x) }, false},
		{"Nearest with 1", nearest(1), false},
		{"Nearest with 1000", nearest(1000), false},
		{"Nearest with 0", nearest(0), false},
		{"Nearest with 1001", nearest(1001), false},
		{"Nearest with -1", nearest(math.MinInt), false},
	}
}

func TestInvalidFractions(t *testing.T) {
	for _, m := range misfits() {
		for _, c := range calls() {
			for _, s := range []string{"0", "1", "-1", "-22/7", "M", "-M", "1/M", "-1/M"} {
				z, e := c.with(m.x, frac(s))
				checkError(t, c.name+" of "+m.why+" and "+s, z, e, api.ErrArg)
				if c.both {
					z, e = c.with(frac(s), m.x)
					checkError(t, c.name+" of "+s+" and "+m.why, z, e, api.ErrArg)
				}
			}
			z, e := c.with(m.x, m.x)
			checkError(t, c.name+" of "+m.why+", twice", z, e, api.ErrArg)
		}
	}
}

// DOC.md, rules 3 to 5: arguments stay as they are, results share no memory, equal arguments give equal results.

func clone(x api.Ratio) api.Ratio {
	return api.Ratio{Neg: x.Neg, Num: slices.Clone(x.Num), Den: slices.Clone(x.Den)}
}

// roomy returns a fraction with room for limbs behind those that it has, filled.
func roomy(x api.Ratio) api.Ratio {
	room := func(n api.Nat) api.Nat {
		return slices.Concat(n, api.Nat{77, 77, 77})[:len(n)]
	}
	return api.Ratio{Neg: x.Neg, Num: room(x.Num), Den: room(x.Den)}
}

// unspoilt reports whether a fraction that roomy returned is still x, and its room is as it was.
func unspoilt(roomed, x api.Ratio) bool {
	whole := func(n api.Nat) bool { return slices.Equal(n[len(n):len(n)+3], api.Nat{77, 77, 77}) }
	return equal(roomed, x) && whole(roomed.Num) && whole(roomed.Den)
}

// spoil changes all the memory of a list.
func spoil(n api.Nat) {
	n = n[:cap(n)]
	for i := range n {
		n[i] ^= 0x5555
	}
}

func checkMemory(t *testing.T, c call, x, y api.Ratio) {
	t.Helper()
	name := c.name + "(" + short(x) + ", " + short(y) + ")"
	a, b := roomy(x), roomy(y)
	first, e := c.with(a, b)
	second, _ := c.with(a, b)
	want := clone(first)
	if !equal(second, want) {
		t.Errorf("%s differs when it is called again: %s and %s, %d", name, short(want), short(second), e)
	}
	spoil(first.Num)
	if !slices.Equal(first.Den, want.Den) {
		t.Errorf("%s: Num and Den share memory", name)
	}
	spoil(first.Den)
	if !equal(second, want) {
		t.Errorf("%s: two results share memory", name)
	}
	if !unspoilt(a, x) || !unspoilt(b, y) {
		t.Errorf("%s: an argument was changed, or shares memory with the result", name)
	}
}

func TestMemory(t *testing.T) {
	values := []string{"0", "1", "-1", "2", "1/2", "-1/2", "-3/2", "22/7", "2^32", "1/2^32", "-2^64/3", "M", "-M", "1/M", "M/2^1023", "-M/2"}
	for _, c := range calls() {
		for _, x := range values {
			for _, y := range values {
				checkMemory(t, c, frac(x), frac(y))
			}
		}
		for _, m := range misfits() {
			checkMemory(t, c, m.x, frac("1/2"))
		}
	}
}

func TestMemoryOfOneArgumentTwice(t *testing.T) {
	for _, c := range calls() {
		for _, s := range samples() {
			x, y := frac(s), frac(s)
			want, wantE := c.with(x, y)
			got, e := c.with(x, x)
			if !equal(got, want) || e != wantE || !equal(x, y) {
				t.Errorf("%s of %s twice = %s, %d, want %s, %d", c.name, s, short(got), e, short(want), wantE)
			}
		}
	}
	one := api.Nat{1}
	x := api.Ratio{Num: one, Den: one} // Num and Den are one list
	z, e := ratio.Add(x, x)
	checkValue(t, "Add of 1 and 1", z, e, big.NewRat(2, 1))
	checkEqual(t, "1", x, frac("1"))
}

func TestMemoryOfOfAndRead(t *testing.T) {
	for _, with := range []func() (api.Ratio, api.Errno){
		func() (api.Ratio, api.Errno) { return ratio.Of(-6, 4) },
		func() (api.Ratio, api.Errno) { return ratio.Of(1, 1) },
		func() (api.Ratio, api.Errno) { return ratio.Of(0, 1) },
		func() (api.Ratio, api.Errno) { return ratio.Of(math.MinInt, math.MaxInt) },
		func() (api.Ratio, api.Errno) { return ratio.Read("1/1") },
		func() (api.Ratio, api.Errno) { return ratio.Read("0/1") },
		func() (api.Ratio, api.Errno) { return ratio.Read("-22/7") },
	} {
		checkMemory(t, call{name: "Of or Read", with: func(x, y api.Ratio) (api.Ratio, api.Errno) { return with() }}, frac("1"), frac("1"))
	}
}

func TestMemoryOfText(t *testing.T) {
	for _, s := range samples() {
		x := roomy(frac(s))
		ratio.Text(x)
		ratio.Valid(x)
		if !unspoilt(x, frac(s)) {
			t.Errorf("Text or Valid changed %s", s)
		}
	}
}
