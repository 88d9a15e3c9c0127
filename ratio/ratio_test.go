package ratio_test

import (
	"math"
	"math/big"
	"math/rand"
	"strconv"
	"testing"

	"majordomo/api"
	"majordomo/ratio"
)

// P4.1: Valid and Of.

func TestValid(t *testing.T) {
	for _, s := range samples() {
		if !ratio.Valid(frac(s)) {
			t.Errorf("%s is not valid", s)
		}
	}
	if !ratio.Valid(api.Ratio{Num: api.Nat{}, Den: api.Nat{1}}) {
		t.Error("0 with an empty list is not valid")
	}
	for _, m := range misfits() {
		if ratio.Valid(m.x) {
			t.Errorf("valid: %s", m.why)
		}
	}
}

func TestValidNeedsLowestTerms(t *testing.T) {
	r := rand.New(rand.NewSource(1))
	for i := range 4000 {
		num, den := randomWhole(r, 12), randomWhole(r, 12)
		if i%2 == 0 {
			common := randomWhole(r, 20)
			num.Mul(num, common)
			den.Mul(den, common)
		}
		divisor := new(big.Int).GCD(nil, nil, num, den)
		want := den.Sign() > 0 && divisor.IsInt64() && divisor.Int64() == 1
		if got := ratio.Valid(api.Ratio{Num: natOf(num), Den: natOf(den)}); got != want {
			t.Fatalf("Valid of %s / %s is %t", num, den, got)
		}
	}
}

func TestOf(t *testing.T) {
	for _, c := range []struct {
		n, d int
		want string
	}{
		{6, -4, "-3/2"}, {0, 5, "0"}, {0, -5, "0"}, {6, 4, "3/2"}, {-6, 4, "-3/2"}, {-6, -4, "3/2"}, {1, 1, "1"}, {-1, 1, "-1"}, {7, 1, "7"}, {12, 4, "3"},
		{1 << 32, 1, "2^32"}, {1<<32 - 1, 1, "4294967295"}, {1, 1 << 32, "1/2^32"}, {1 << 32, 1 << 33, "1/2"}, {1000000007, 1000000009, "1000000007/1000000009"},
		{math.MinInt, math.MinInt, "1"}, {math.MaxInt, math.MaxInt, "1"},
		{math.MinInt, math.MaxInt, "-2^63/9223372036854775807"}, {math.MaxInt, math.MinInt, "-9223372036854775807/2^63"},
		{math.MinInt, 1, "-2^63"}, {math.MinInt, -1, "2^63"}, {math.MinInt, 2, "-2^62"}, {math.MinInt, -6, "2^62/3"}, {math.MinInt, 3, "-2^63/3"},
		{1, math.MinInt, "-1/2^63"}, {-1, math.MinInt, "1/2^63"}, {0, math.MinInt, "0"}, {0, math.MaxInt, "0"},
		{math.MaxInt, 1, "9223372036854775807"}, {math.MaxInt, -1, "-9223372036854775807"}, {1, math.MaxInt, "1/9223372036854775807"}, {-1, math.MaxInt, "-1/9223372036854775807"},
		{0, 0, "ErrRange"}, {1, 0, "ErrRange"}, {-6, 0, "ErrRange"}, {math.MinInt, 0, "ErrRange"}, {math.MaxInt, 0, "ErrRange"},
	} {
		x, e := ratio.Of(c.n, c.d)
		checkText(t, "Of("+strconv.Itoa(c.n)+", "+strconv.Itoa(c.d)+")", x, e, c.want)
	}
}

func TestOfRandomInts(t *testing.T) {
	r := rand.New(rand.NewSource(2))
	for range 4000 {
		n, d := int(r.Uint64())>>r.Intn(64), int(r.Uint64())>>r.Intn(64)
		if d == 0 {
			d = 1
		}
		x, e := ratio.Of(n, d)
		checkValue(t, "Of("+strconv.Itoa(n)+", "+strconv.Itoa(d)+")", x, e, big.NewRat(int64(n), int64(d)))
	}
}

// P4.2: Add, Sub, Mul and Div.

// operation is one of the four, and what big.Rat has for it.
type operation struct {
	op  func(x, y api.Ratio) (api.Ratio, api.Errno)
	big func(z, x, y *big.Rat) *big.Rat
}

func operations() map[string]operation {
	return map[string]operation{
		"Add": {ratio.Add, (*big.Rat).Add},
		"Sub": {ratio.Sub, (*big.Rat).Sub},
		"Mul": {ratio.Mul, (*big.Rat).Mul},
		"Div": {ratio.Div, (*big.Rat).Quo},
	}
}

func TestOperations(t *testing.T) {
	operations := operations()
	for _, c := range []struct{ name, x, y, want string }{
		{"Add", "1/2", "1/3", "5/6"}, {"Add", "-1/2", "1/3", "-1/6"}, {"Add", "1/2", "-1/3", "1/6"}, {"Add", "-1/2", "-1/3", "-5/6"},
		{"Add", "1/2", "-1/2", "0"}, {"Add", "-1/2", "1/2", "0"}, {"Add", "0", "0", "0"}, {"Add", "0", "-7/3", "-7/3"}, {"Add", "7/3", "0", "7/3"},
		{"Add", "4294967295", "1", "2^32"}, {"Add", "1/6", "1/3", "1/2"}, {"Add", "2/3", "4/3", "2"},
		{"Sub", "1/2", "1/2", "0"}, {"Sub", "-1/2", "-1/2", "0"}, {"Sub", "0", "0", "0"}, {"Sub", "0", "5", "-5"}, {"Sub", "5", "0", "5"}, {"Sub", "0", "-5", "5"},
		{"Sub", "-1/2", "1/3", "-5/6"}, {"Sub", "1/3", "1/2", "-1/6"}, {"Sub", "1/2", "-1/3", "5/6"}, {"Sub", "2^64", "1", "18446744073709551615"},
		{"Mul", "-2/3", "3/4", "-1/2"}, {"Mul", "2/3", "-3/4", "-1/2"}, {"Mul", "-2/3", "-3/2", "1"}, {"Mul", "-2/3", "0", "0"}, {"Mul", "0", "-2/3", "0"}, {"Mul", "0", "0", "0"},
		{"Mul", "2^32", "2^32", "2^64"}, {"Mul", "4294967295", "4294967295", "18446744065119617025"},
		{"Div", "1/2", "-1/4", "-2"}, {"Div", "-1/2", "-1/4", "2"}, {"Div", "-1/2", "1/4", "-2"}, {"Div", "0", "-1/4", "0"}, {"Div", "0", "3", "0"}, {"Div", "2^64", "2^32", "2^32"}, {"Div", "3", "7", "3/7"},
		{"Div", "1/2", "0", "ErrRange"}, {"Div", "0", "0", "ErrRange"}, {"Div", "-M", "0", "ErrRange"},
	} {
		z, e := operations[c.name].op(frac(c.x), frac(c.y))
		checkText(t, c.name+"("+c.x+", "+c.y+")", z, e, c.want)
	}
}

func TestOperationsAtTheLimit(t *testing.T) {
	operations := operations()
	for _, c := range []struct{ name, x, y, want string }{
		{"Add", "M-1", "1", "M"}, {"Add", "-M", "1", "-M-1"}, {"Add", "1/M", "1/M", "2/M"}, {"Add", "1/M", "-1/M", "0"}, {"Add", "M/2", "M/2", "M"},
		{"Add", "1/2^1023", "1/2^1023", "1/2^1022"}, {"Add", "M/2^1023", "1/2^1023", "2"},
		{"Sub", "M", "M", "0"}, {"Sub", "M/2", "M/2", "0"}, {"Sub", "M", "1", "M-1"}, {"Sub", "3/M", "-1/M", "4/M"}, {"Sub", "-M/2", "M/2", "-M"},
		{"Mul", "M/2", "2/M", "1"}, {"Mul", "2^1023/M", "-M/2^1023", "-1"}, {"Mul", "2^1023", "1/2", "2^1022"}, {"Mul", "2^512", "2^511", "2^1023"}, {"Mul", "1/2^512", "1/2^511", "1/2^1023"}, {"Mul", "M", "0", "0"},
		{"Div", "M/2", "M/2", "1"}, {"Div", "1/M", "1/M", "1"}, {"Div", "M", "M", "1"}, {"Div", "2^1023", "2^1023/M", "M"}, {"Div", "1/2^1022", "2", "1/2^1023"}, {"Div", "0", "1/M", "0"},

		{"Add", "M", "1", "ErrLimit"}, {"Add", "-M", "-1", "ErrLimit"}, {"Add", "M", "1/2", "ErrLimit"}, {"Add", "M", "M", "ErrLimit"}, {"Add", "1/M", "1/2", "ErrLimit"}, {"Add", "1/M", "1/M-2", "ErrLimit"},
		{"Sub", "-M", "1", "ErrLimit"}, {"Sub", "M", "-1", "ErrLimit"}, {"Sub", "1/M", "1/2^1023", "ErrLimit"}, {"Sub", "1", "M/2^1023", "-2^1023-1/2^1023"},
		{"Mul", "2^1023", "2", "ErrLimit"}, {"Mul", "2^512", "-2^512", "ErrLimit"}, {"Mul", "1/2^1023", "1/2", "ErrLimit"}, {"Mul", "-M", "M", "ErrLimit"}, {"Mul", "M/2^1023", "M/2^1022", "ErrLimit"}, {"Mul", "M/2", "3/M-1", "ErrLimit"},
		{"Div", "1/M", "2", "ErrLimit"}, {"Div", "M", "1/2", "ErrLimit"}, {"Div", "1/M", "M", "ErrLimit"}, {"Div", "2^1023", "-1/2", "ErrLimit"}, {"Div", "M/2^1023", "2^1023/M", "ErrLimit"},
	} {
		z, e := operations[c.name].op(frac(c.x), frac(c.y))
		checkText(t, c.name+"("+c.x+", "+c.y+")", z, e, c.want)
	}
}

// checkOperations checks the four operations with two values against big.Rat.
func checkOperations(t *testing.T, x, y *big.Rat) {
	t.Helper()
	for name, o := range operations() {
		z, e := o.op(fraction(x), fraction(y))
		call := name + "(" + short(fraction(x)) + ", " + short(fraction(y)) + ")"
		if name == "Div" && y.Sign() == 0 {
			checkError(t, call, z, e, api.ErrRange)
			continue
		}
		want := o.big(new(big.Rat), x, y)
		if fits(want) {
			checkValue(t, call, z, e, want)
		} else {
			checkError(t, call, z, e, api.ErrLimit)
		}
	}
}

func TestOperationsWithSmallValues(t *testing.T) {
	values := smallValues(2, 5)
	for _, x := range values {
		for _, y := range values {
			checkOperations(t, x, y)
		}
	}
}

func TestOperationsWithRandomValues(t *testing.T) {
	r := rand.New(rand.NewSource(3))
	for i := range 3000 {
		limbs := []int{1, 3, 16, 17, 32}[i%5]
		x, y := randomValue(r, limbs), randomValue(r, limbs)
		checkOperations(t, x, y)
		if i%3 == 0 { // much can be cancelled
			checkOperations(t, x, x)
			checkOperations(t, x, new(big.Rat).Neg(x))
			if x.Sign() != 0 {
				checkOperations(t, x, new(big.Rat).Inv(x))
			}
		}
	}
}

// P4.3: Cmp.

func checkCmp(t *testing.T, x, y *big.Rat) {
	t.Helper()
	if c, e := ratio.Cmp(fraction(x), fraction(y)); c != x.Cmp(y) || e != api.OK {
		t.Errorf("Cmp(%s, %s) = %d, %d", short(fraction(x)), short(fraction(y)), c, e)
	}
}

func TestCmp(t *testing.T) {
	for _, c := range []struct {
		x, y string
		want int
	}{
		{"0", "0", 0}, {"1/2", "1/2", 0}, {"-1/2", "-1/2", 0}, {"M/2", "M/2", 0}, {"1/2", "1/3", 1}, {"1/3", "1/2", -1}, {"-1/2", "-1/3", -1}, {"-1/3", "-1/2", 1},
		{"-1/2", "1/2", -1}, {"1/2", "-1/2", 1}, {"0", "1/M", -1}, {"0", "-1/M", 1}, {"-M", "0", -1}, {"M", "0", 1}, {"M", "M-1", 1}, {"1/M", "1/M-1", -1},
		{"M/M-1", "M-1/M-2", -1}, {"-M/M-1", "-M-1/M-2", 1}, {"M-1/M", "M-2/M-1", 1}, {"M", "1/M", 1}, {"-M", "M", -1}, {"22/7", "355/113", 1},
	} {
		if got, e := ratio.Cmp(frac(c.x), frac(c.y)); got != c.want || e != api.OK {
			t.Errorf("Cmp(%s, %s) = %d, %d, want %d", c.x, c.y, got, e, c.want)
		}
	}
	for _, x := range smallValues(2, 5) {
		for _, y := range smallValues(2, 5) {
			checkCmp(t, x, y)
		}
	}
}

func TestCmpOfRandomValues(t *testing.T) {
	r := rand.New(rand.NewSource(4))
	for i := range 3000 {
		x, y := randomValue(r, 1+i%32), randomValue(r, 1+i%32)
		checkCmp(t, x, y)
		checkCmp(t, x, x)
		if near := new(big.Rat).Add(x, new(big.Rat).SetFrac(big.NewInt(1), power(1000))); fits(near) {
			checkCmp(t, x, near)
			checkCmp(t, near, x)
		}
	}
}

// P4.4: Floor and Int.

func TestFloor(t *testing.T) {
	for _, c := range [][2]string{
		{"-3/2", "-2"}, {"3/2", "1"}, {"0", "0"}, {"1/2", "0"}, {"-1/2", "-1"}, {"7", "7"}, {"-7", "-7"}, {"2/3", "0"}, {"-2/3", "-1"}, {"-4/3", "-2"}, {"-5/3", "-2"},
		{"1/M", "0"}, {"-1/M", "-1"}, {"M", "M"}, {"-M", "-M"}, {"M/2", "2^1023-1"}, {"-M/2", "-2^1023"}, {"M-1/M", "0"}, {"-M-1/M", "-1"}, {"M/M-1", "1"}, {"-M/M-1", "-2"},
		{"-4294967295/2", "-2147483648"}, {"-8589934591/2", "-4294967296"}, {"2^64/3", "6148914691236517205"},
	} {
		x, e := ratio.Floor(frac(c[0]))
		checkText(t, "Floor("+c[0]+")", x, e, c[1])
	}
}

func TestFloorOfRandomValues(t *testing.T) {
	r := rand.New(rand.NewSource(5))
	for i := range 5000 {
		v := randomValue(r, 1+i%32)
		want := new(big.Int).Div(v.Num(), v.Denom()) // Euclidean: with a Denom above 0 this is the floor
		x, e := ratio.Floor(fraction(v))
		checkValue(t, "Floor("+short(fraction(v))+")", x, e, new(big.Rat).SetInt(want))
	}
}

func TestInt(t *testing.T) {
	for _, n := range []int{0, 1, -1, 2, -2, 7, 1<<31 - 1, 1 << 31, -1 << 31, 1<<32 - 1, 1 << 32, -1 << 32, 1<<32 + 1, 1<<62 + 1, math.MaxInt - 1, math.MaxInt, -math.MaxInt, math.MinInt} {
		x := fraction(new(big.Rat).SetInt64(int64(n)))
		if got, e := ratio.Int(x); got != n || e != api.OK {
			t.Errorf("Int(%d) = %d, %d", n, got, e)
		}
	}
	for _, s := range []string{"1/2", "-1/2", "7/3", "-7/3", "1/2^32", "2^63", "9223372036854775809", "-9223372036854775809", "2^64-1", "-2^64-1", "2^64", "-2^64", "18446744073709551617", "2^96", "M", "-M", "M/2", "2^63/3", "-1/M"} {
		if got, e := ratio.Int(frac(s)); got != 0 || e != api.ErrRange {
			t.Errorf("Int(%s) = %d, %d, want ErrRange", s, got, e)
		}
	}
}
