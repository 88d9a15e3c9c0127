package ratio_test

import (
	"math/rand"
	"strings"
	"testing"

	"majordomo/api"
	"majordomo/ratio"
)

// P4.5: Text and Read.

// texts are texts of fractions.
func texts() []string {
	most, half := whole("M").String(), power(1023).String()
	return []string{
		"0/1", "1/1", "-1/1", "1/2", "-3/2", "9/10", "10/9", "-10/11", "100/101", "101/100", "22/7",
		"999999999/1000000000", "1000000000/999999999", "1000000001/2", "-1000000000000000000/7", "1000000000000000001/1000000000", "10000000000/3",
		"4294967295/4294967296", "-4294967296/4294967295", "18446744073709551616/1", "1/18446744073709551616", "340282366920938463463374607431768211456/3",
		most + "/1", "-" + most + "/1", "1/" + most, "-" + most + "/" + half, half + "/" + most, "1" + strings.Repeat("0", 308) + "/1",
	}
}

func TestText(t *testing.T) {
	for _, s := range texts() {
		if got := ratio.Text(frac(s)); got != s {
			t.Errorf("Text(%.80s) = %.80s", s, got)
		}
	}
	if got := ratio.Text(api.Ratio{Num: api.Nat{}, Den: api.Nat{1}}); got != "0/1" {
		t.Errorf("Text of 0 with an empty list = %s", got)
	}
	for _, m := range misfits() {
		if got := ratio.Text(m.x); got != "" {
			t.Errorf("Text of %s = %.80s", m.why, got)
		}
	}
}

func TestRead(t *testing.T) {
	for _, s := range texts() {
		x, e := ratio.Read(s)
		checkValue(t, "Read("+s+")", x, e, number(s))
	}
}

func TestReadOfMalformedTexts(t *testing.T) {
	beyond, most := power(1024).String(), whole("M").String()
	for _, s := range []string{
		"", " ", "-", "/", "-/", "1", "3", "-3", "0", "-0", "/1", "1/", "-/1", "-1/", "//", "1//2", "1/2/3", "1/2/", "/1/2",
		"01/2", "1/02", "00/1", "0/01", "-01/2", "007/2", "0/00",
		"-0/1", "0/0", "1/0", "-1/0", "0/2", "-0/2", "0/10",
		"+1/2", "1/+2", "+0/1", "--1/2", "-+1/2", "1/-2", "-1/-2", "1-/2", "1/2-",
		"6/4", "-6/4", "2/2", "4/2", "10/5", "1000000000/1000000000", most + "/" + most, most + "/3",
		" 1/2", "1/2 ", "1 /2", "1/ 2", "- 1/2", "1/2\n", "\t1/2", "1/2\x00", "\x001/2", "1_0/3", "1,0/3", "0x1/2", "1e3/7", "1.5/2", "0.5", "a/b", "1:2", "1\\2", "\u22121/2", "\u0661/\u0662", "\uff11/\uff12", "1\u20442", "\xff/1", "1/\xff", "\xb1/2", "½", "NaN", "inf", "1/:", ":/1", "//1",
		beyond + "/1", "-" + beyond + "/1", "1/" + beyond, "-1/" + beyond, beyond + "/3", beyond + "/" + beyond, "9" + strings.Repeat("0", 308) + "/7", "1/9" + strings.Repeat("0", 308),
		"1" + strings.Repeat("0", 309) + "/1", "1/1" + strings.Repeat("0", 309), strings.Repeat("9", 1<<20) + "/1", "1/" + strings.Repeat("9", 1<<20), strings.Repeat("0", 1<<20) + "1/1", "1/" + strings.Repeat("0", 1<<20), strings.Repeat("1/", 1<<20), strings.Repeat("-", 1<<20),
	} {
		x, e := ratio.Read(s)
		call := s
		if len(s) > 80 {
			call = s[:80] + ".."
		}
		checkError(t, "Read("+call+")", x, e, api.ErrSyntax)
	}
}

// second reports whether a text is that of a valid fraction, by writing with big.Rat what it reads.
func second(s string) bool {
	unsigned := strings.TrimPrefix(s, "-")
	if strings.Trim(unsigned, "0123456789/") != "" || strings.Count(unsigned, "/") != 1 || strings.HasPrefix(unsigned, "/") || strings.HasSuffix(unsigned, "/") {
		return false
	}
	if strings.Trim(unsigned[strings.Index(unsigned, "/")+1:], "0") == "" {
		return false
	}
	return number(s).String() == s
}

func TestReadOfRandomTexts(t *testing.T) {
	r := rand.New(rand.NewSource(6))
	read := 0
	for range 100000 {
		b := make([]byte, 1+r.Intn(6))
		for i := range b {
			b[i] = "0012346//-+ a"[r.Intn(13)]
		}
		s := string(b)
		x, e := ratio.Read(s)
		if second(s) {
			read++
			checkValue(t, "Read("+s+")", x, e, number(s))
		} else {
			checkError(t, "Read("+s+")", x, e, api.ErrSyntax)
		}
	}
	if read < 500 {
		t.Errorf("only %d texts were those of fractions", read)
	}
}

func TestReadOfTextOfRandomValues(t *testing.T) {
	r := rand.New(rand.NewSource(7))
	for i := range 2000 {
		v := randomValue(r, 1+i%32)
		s := ratio.Text(fraction(v))
		if s != v.String() {
			t.Fatalf("Text(%s) = %s", v, s)
		}
		x, e := ratio.Read(s)
		checkValue(t, "Read("+s+")", x, e, v)
	}
}
