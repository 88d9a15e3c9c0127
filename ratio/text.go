package ratio

import (
	"strconv"
	"strings"

	"majordomo/api"
)

// maxDigits is how many decimal digits the greatest number of MaxLimbs limbs, 2^1024 - 1, has.
const maxDigits = 309

// billion is the base in which numbers are written, nine decimal digits for each of its digits.
const billion = 1000000000

// Text returns the text of a fraction.
func Text(x api.Ratio) string {
	if !Valid(x) {
		return ""
	}
	sign := ""
	if x.Neg {
		sign = "-"
	}
	return sign + decimal(x.Num) + "/" + decimal(x.Den)
}

// Read returns the fraction of a text.
func Read(s string) (api.Ratio, api.Errno) {
	digits, neg := strings.CutPrefix(s, "-")
	first, second, _ := strings.Cut(digits, "/")
	num, isNum := number(first)
	den, isDen := number(second)
	x := api.Ratio{Neg: neg, Num: num, Den: den}
	if !isNum || !isDen || !Valid(x) {
		return api.Ratio{}, api.ErrSyntax
	}
	return x, api.OK
}

// decimal returns a number in decimal digits.
func decimal(n api.Nat) string {
	s := ""
	for len(n) > 0 {
		whole, rest := divide(n, natural(billion))
		group := strconv.Itoa(billion + int(limb(rest, 0)))
		s = group[1:] + s
		n = whole
	}
	s = strings.TrimLeft(s, "0")
	if s == "" {
		return "0"
	}
	return s
}

// number returns the number that decimal digits stand for, and whether they do, without digits 0 in front.
func number(digits string) (api.Nat, bool) {
	if digits == "" || len(digits) > maxDigits || len(digits) > 1 && digits[0] == '0' {
		return nil, false
	}
	var n api.Nat
	for _, c := range []byte(digits) {
		if c < '0' || c > '9' {
			return nil, false
		}
		n = add(multiply(n, natural(10)), natural(uint64(c-'0')))
	}
	return n, true
}
