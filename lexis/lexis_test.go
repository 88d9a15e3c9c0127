package lexis_test

import (
	"math/rand"
	"regexp"
	"slices"
	"strconv"
	"strings"
	"testing"

	"majordomo/api"
	"majordomo/lexis"
)

func name(text string, at int) api.Token {
	return api.Token{Kind: api.TokenName, Text: text, At: at}
}

func number(text string, n, at int) api.Token {
	return api.Token{Kind: api.TokenNumber, Text: text, Number: n, At: at}
}

func sign(text string, at int) api.Token {
	return api.Token{Kind: api.TokenSign, Text: text, At: at}
}

// checkTokens checks that a text has these tokens.
func checkTokens(t *testing.T, s string, want ...api.Token) {
	t.Helper()
	l, at, e := lexis.Tokens(s)
	if !slices.Equal(l, want) || at != 0 || e != api.OK {
		t.Errorf("Tokens(%.60q) = %v, %d, %d, want %v, 0, OK", s, l, at, e, want)
	}
}

// checkError checks that a text has this error at this offset, and that there are no tokens with it.
func checkError(t *testing.T, s string, at int, e api.Errno) {
	t.Helper()
	l, gotAt, got := lexis.Tokens(s)
	if len(l) != 0 || gotAt != at || got != e {
		t.Errorf("Tokens(%.60q) = %v, %d, %d, want none, %d, %d", s, l, gotAt, got, at, e)
	}
}

// P1.1: kinds, texts, numbers and offsets.

func TestTokensOfExamples(t *testing.T) {
	checkTokens(t, "cores 2;# x", name("cores", 0), number("2", 2, 6), sign(";", 7))
	checkTokens(t, "a-1{b,c}", name("a-1", 0), sign("{", 3), name("b", 4), sign(",", 5), name("c", 6), sign("}", 7))
	checkError(t, "a . b", 2, api.ErrSyntax)
	checkError(t, "01", 0, api.ErrSyntax)
	checkError(t, "A", 0, api.ErrSyntax)
	checkError(t, "x -", 2, api.ErrSyntax)
}

func TestTokensOfNothing(t *testing.T) {
	for _, s := range []string{"", " ", "\t", "\r", "\n", " \t\r\n", "#", "# a 01 A $", "#\n", "# x\n \t# y"} {
		checkTokens(t, s)
	}
}

func TestTokensOfNames(t *testing.T) {
	for _, s := range []string{"a", "z", "az", "a0", "z9", "a-", "a--", "a-b", "a1-2", "service", "abcdefghijkl", "a-0123456789"} {
		checkTokens(t, s, name(s, 0))
		checkTokens(t, " "+s+";", name(s, 1), sign(";", 1+len(s)))
	}
}

func TestTokensOfNumbers(t *testing.T) {
	for _, n := range []int{0, 1, 9, 10, 90, 100, 1234, 1000000, 99999999, 100000000, 987654321, 999999999} {
		s := strconv.Itoa(n)
		checkTokens(t, s, number(s, n, 0))
		checkTokens(t, "{"+s+"\n", sign("{", 0), number(s, n, 1))
	}
}

func TestTokensOfSigns(t *testing.T) {
	checkTokens(t, "{};,", sign("{", 0), sign("}", 1), sign(";", 2), sign(",", 3))
	checkTokens(t, ";;", sign(";", 0), sign(";", 1))
}

func TestTokensAreTheLongest(t *testing.T) {
	checkTokens(t, "ab12 c", name("ab12", 0), name("c", 5))
	checkTokens(t, "12ab", number("12", 12, 0), name("ab", 2))
	checkTokens(t, "0a0", number("0", 0, 0), name("a0", 1))
	checkTokens(t, "0 0", number("0", 0, 0), number("0", 0, 2))
	checkTokens(t, "a;1", name("a", 0), sign(";", 1), number("1", 1, 2))
	checkError(t, "1-2", 1, api.ErrSyntax)
	checkError(t, "aB", 1, api.ErrSyntax)
}

func TestTokensLeaveOutBlanks(t *testing.T) {
	for _, blank := range []string{" ", "\t", "\r", "\n", " \t\r\n "} {
		checkTokens(t, blank+"a"+blank+"1"+blank, name("a", len(blank)), number("1", 1, 2*len(blank)+1))
	}
}

func TestTokensLeaveOutRemarks(t *testing.T) {
	checkTokens(t, "a#b\nc", name("a", 0), name("c", 4))
	checkTokens(t, "a # b ; 01 A\n;", name("a", 0), sign(";", 13))
	checkTokens(t, "a#b\rc\nd", name("a", 0), name("d", 6))
	checkTokens(t, "a#b", name("a", 0))
	checkTokens(t, "a#b#c\n#\n##\nd", name("a", 0), name("d", 11))
	checkTokens(t, "1#\x00\xff\u00e9\U0001f600\n2", number("1", 1, 0), number("2", 2, 11))
	checkTokens(t, "# more than twelve bytes, and 0012345678901 too", nil...)
}

// P1.1: errors with their offsets.

func TestTokensNeedABeginning(t *testing.T) {
	for c := range 256 {
		s := string([]byte{byte(c)})
		if strings.Contains("abcdefghijklmnopqrstuvwxyz0123456789{};, \t\r\n#", s) {
			if _, at, e := lexis.Tokens("a " + s); at != 0 || e != api.OK {
				t.Errorf("Tokens(%q): %d at %d, want OK", "a "+s, e, at)
			}
			continue
		}
		checkError(t, s, 0, api.ErrSyntax)
		checkError(t, "a "+s+" b", 2, api.ErrSyntax)
		checkError(t, "# r\n7;"+s, 6, api.ErrSyntax)
	}
	for _, s := range []string{"\u00e9", "\u2003a", "\u0660", "\uff11", "\ufeff"} {
		checkError(t, s, 0, api.ErrSyntax)
	}
}

func TestTokensWithSuperfluousZeros(t *testing.T) {
	for _, s := range []string{"00", "01", "007", "012345678", "000000000", "0123456789", "0000000000", "0" + strings.Repeat("9", 4000)} {
		checkError(t, s, 0, api.ErrSyntax)
		checkError(t, "a,"+s+";", 2, api.ErrSyntax)
	}
}

func TestTokensThatAreTooLong(t *testing.T) {
	for _, s := range []string{"abcdefghijklm", "a-01234567890", strings.Repeat("a", 4000), "1234567890", "9999999999", "1000000000", strings.Repeat("9", 4000)} {
		checkError(t, s, 0, api.ErrLimit)
		checkError(t, "a,"+s+";", 2, api.ErrLimit)
	}
}

func TestTokensReturnTheFirstError(t *testing.T) {
	checkError(t, "A 1234567890", 0, api.ErrSyntax)
	checkError(t, "1234567890 A", 0, api.ErrLimit)
	checkError(t, "1234567890A", 0, api.ErrLimit)
	checkError(t, "abcdefghijklmA", 0, api.ErrLimit)
	checkError(t, "b 01 abcdefghijklm", 2, api.ErrSyntax)
	checkError(t, "b abcdefghijklm 01", 2, api.ErrLimit)
}

func TestTokensOfLongTexts(t *testing.T) {
	spaces := strings.Repeat(" ", api.MaxText-1)
	checkTokens(t, spaces+"a", name("a", 4095))
	checkTokens(t, "a#"+strings.Repeat("x", api.MaxText-2), name("a", 0))
	checkError(t, spaces+"A", 4095, api.ErrSyntax)
	if l, at, e := lexis.Tokens(strings.Repeat(";", api.MaxText)); len(l) != 4096 || at != 0 || e != api.OK {
		t.Errorf("4096 signs: %d tokens, %d, %d", len(l), at, e)
	}
	checkError(t, spaces+"a ", 4096, api.ErrLimit)
	checkError(t, "A"+spaces+" ", 4096, api.ErrLimit)
	checkError(t, "01"+spaces, 4096, api.ErrLimit)
	checkError(t, strings.Repeat("#", 1<<20), 4096, api.ErrLimit)
}

// P1.2: texts with a space between each two, and errors.

// checkPrint checks that tokens are printed so.
func checkPrint(t *testing.T, l []api.Token, want string, e api.Errno) {
	t.Helper()
	if s, got := lexis.Print(l); s != want || got != e {
		t.Errorf("Print of %d tokens = %.60q, %d, want %.60q, %d", len(l), s, got, want, e)
	}
}

func TestPrint(t *testing.T) {
	checkPrint(t, nil, "", api.OK)
	checkPrint(t, []api.Token{}, "", api.OK)
	checkPrint(t, []api.Token{name("cores", 0), number("2", 2, 0), sign(";", 0)}, "cores 2 ;", api.OK)
	checkPrint(t, []api.Token{sign("{", 0), sign("}", 0), sign(";", 0), sign(",", 0)}, "{ } ; ,", api.OK)
	for _, x := range []api.Token{name("a", 0), name("z9-", 0), name("abcdefghijkl", 0), number("0", 0, 0), number("10", 10, 0), number("999999999", 999999999, 0)} {
		checkPrint(t, []api.Token{x}, x.Text, api.OK)
	}
}

func TestPrintIgnoresOffsets(t *testing.T) {
	for _, at := range []int{-1, 1, 4097, 1 << 62, -1 << 63} {
		checkPrint(t, []api.Token{name("a", at), number("7", 7, at), sign(",", at)}, "a 7 ,", api.OK)
	}
}

// misfits returns tokens that do not have a Text and a Number as the table says.
func misfits() []api.Token {
	l := []api.Token{{Text: "a"}, {Text: "1", Number: 1}, {Text: ";"}, {Kind: api.TokenSign + 1, Text: ";"}, {Kind: 255, Text: "a"}, {}}
	for _, s := range []string{"", " ", "A", "aB", "1", "1a", "-", "-a", ";", "{", "a ", " a", "a b", "a;", "a#", "a\n", "\u00e9", "a\u00e9", "a\x00", "abcdefghijklm", strings.Repeat("a", 5000)} {
		l = append(l, name(s, 0))
	}
	for _, s := range []string{"", " ", "a", ";", "+1", "-1", " 1", "1 ", "1;", "1#", "1a", "01", "001", "1_1", "0x1", "1.", "\uff11"} {
		l = append(l, number(s, 1, 0))
	}
	for _, s := range []string{"", " ", "a", "1", ";;", "; ", " ;", ";a", "{}", ".", "#", "-", "[", ":", "\n"} {
		l = append(l, sign(s, 0))
	}
	return append(l,
		number("00", 0, 0), number("1234567890", 1234567890, 0), number("0000000001", 1, 0),
		number("2", 3, 0), number("2", 0, 0), number("2", -2, 0), number("0", 1, 0), number("999999999", 1000000000, 0),
		api.Token{Kind: api.TokenName, Text: "a", Number: 1}, api.Token{Kind: api.TokenName, Text: "a", Number: -1}, api.Token{Kind: api.TokenName, Text: "1", Number: 1},
		api.Token{Kind: api.TokenSign, Text: ";", Number: 1}, api.Token{Kind: api.TokenSign, Text: ",", Number: -1})
}

func TestPrintOfMisfits(t *testing.T) {
	for _, x := range misfits() {
		for _, l := range [][]api.Token{{x}, {x, name("a", 0)}, {name("a", 0), x}, {sign("{", 0), x, sign("}", 0)}} {
			if s, e := lexis.Print(l); s != "" || e != api.ErrArg {
				t.Errorf("Print(%.60v) = %q, %d, want ErrArg", x, s, e)
			}
		}
	}
}

// wide returns tokens whose text has so many bytes (not 2).
func wide(bytes int) []api.Token {
	var l []api.Token
	for ; bytes > 3; bytes -= 2 {
		l = append(l, sign(";", 0))
	}
	if bytes == 3 {
		return append(l, number("100", 100, 0))
	}
	return append(l, name(strings.Repeat("a", bytes), 0))
}

func TestPrintOfManyTokens(t *testing.T) {
	for _, n := range []int{1, 3, 4095, 4096} {
		if s, e := lexis.Print(wide(n)); len(s) != n || e != api.OK {
			t.Errorf("Print of %d bytes: %d bytes, %d", n, len(s), e)
		}
	}
	for _, n := range []int{4097, 4098, 100000} {
		checkPrint(t, wide(n), "", api.ErrLimit)
		checkPrint(t, append(wide(n), api.Token{}), "", api.ErrArg)
		checkPrint(t, append([]api.Token{number("01", 1, 0)}, wide(n)...), "", api.ErrArg)
	}
}

func TestPrintKeepsItsArgument(t *testing.T) {
	l := []api.Token{name("a", 5), number("7", 7, 9), sign(";", 3)}
	was := slices.Clone(l)
	lexis.Print(l)
	if !slices.Equal(l, was) {
		t.Errorf("Print changed its argument to %v", l)
	}
}

func TestTokensAreNewEachTime(t *testing.T) {
	a, _, _ := lexis.Tokens("a 7 ;")
	b, _, _ := lexis.Tokens("a 7 ;")
	a[0], a[1] = sign(",", 1), sign(",", 2)
	if !slices.Equal(b, []api.Token{name("a", 0), number("7", 7, 2), sign(";", 4)}) {
		t.Errorf("a change of one result changed another one: %v", b)
	}
}

// P1.3: the consequences, and a second reading of the chapter to compare with.

var (
	skipped   = regexp.MustCompile(`\A(?:[ \t\r\n]|#[^\n]*)*`)
	beginning = regexp.MustCompile(`\A(?:[a-z][a-z0-9-]*|[0-9]+|[{};,])`)
)

// second does what Tokens does, with regular expressions.
func second(s string) (l []api.Token, at int, e api.Errno) {
	if len(s) > 4096 {
		return nil, 4096, api.ErrLimit
	}
	for at += len(skipped.FindString(s)); at < len(s); at += len(skipped.FindString(s[at:])) {
		text := beginning.FindString(s[at:])
		n, _ := strconv.Atoi(text)
		switch {
		case text == "" || len(text) > 1 && text[0] == '0':
			return nil, at, api.ErrSyntax
		case text[0] >= 'a' && text[0] <= 'z':
			l = append(l, name(text, at))
		case text[0] >= '0' && text[0] <= '9':
			l = append(l, number(text, n, at))
		default:
			l = append(l, sign(text, at))
		}
		if len(text) > 12 && l[len(l)-1].Kind == api.TokenName || n > 999999999 {
			return nil, at, api.ErrLimit
		}
		at += len(text)
	}
	return l, 0, api.OK
}

// checkConsequences checks all that P1.3 says of a text.
func checkConsequences(t *testing.T, s string) {
	t.Helper()
	l, at, e := lexis.Tokens(s)
	if want, wantAt, wantE := second(s); !slices.Equal(l, want) || at != wantAt || e != wantE {
		t.Fatalf("Tokens(%q) = %v, %d, %d, want %v, %d, %d", s, l, at, e, want, wantAt, wantE)
	}
	checkBehind(t, s, l, e)
	if e != api.OK {
		return
	}
	for _, x := range l {
		if !strings.HasPrefix(s[x.At:], x.Text) {
			t.Fatalf("Tokens(%q): %q is not at %d", s, x.Text, x.At)
		}
	}
	printed, e := lexis.Print(l)
	checkSame(t, printed, l, e)
	checkSame(t, strings.ReplaceAll(printed, " ", "# a 01 A\n\t\r "), l, api.OK)
	checkSame(t, " "+printed+"#", l, api.OK)
}

// checkSame checks that a text has these tokens, but for their offsets.
func checkSame(t *testing.T, s string, want []api.Token, printed api.Errno) {
	t.Helper()
	l, at, e := lexis.Tokens(s)
	if printed != api.OK || at != 0 || e != api.OK || !slices.EqualFunc(l, want, equalButAt) {
		t.Fatalf("Tokens(%q) = %v, %d, %d, want %v", s, l, at, e, want)
	}
}

func equalButAt(a, b api.Token) bool {
	return a.Kind == b.Kind && a.Text == b.Text && a.Number == b.Number
}

// checkBehind checks that what stands behind a line feed is read as if it stood alone.
func checkBehind(t *testing.T, s string, l []api.Token, e api.Errno) {
	t.Helper()
	from := strings.Index(s, "\n") + 1
	if from == 0 || e != api.OK {
		return
	}
	var behind []api.Token
	for _, x := range l {
		if x.At >= from {
			x.At -= from
			behind = append(behind, x)
		}
	}
	checkTokens(t, s[from:], behind...)
}

// texts calls f with all texts of at most n bytes, each of them one of alphabet.
func texts(alphabet, front string, n int, f func(s string)) {
	f(front)
	if n == 0 {
		return
	}
	for i := range len(alphabet) {
		texts(alphabet, front+alphabet[i:i+1], n-1, f)
	}
}

func TestConsequencesOfShortTexts(t *testing.T) {
	texts("az0-;A \n#", "", 5, func(s string) { checkConsequences(t, s) })
}

// pieces returns what random texts are made of: first the pieces with which a text has no error if they stand apart, then the others.
func pieces() (good, bad []string) {
	good = []string{"a", "z-9", "service", "abcdefghijkl", "0", "7", "10", "123456789", "{", "}", ";", ",", " ", "\t", "\r", "\n", "# remark\n", "#\xff 007 A\n"}
	bad = []string{"#", "A", "-", ".", "\x00", "\xff", "\u00e9", "007", "00", "1234567890", "0123456789", "abcdefghijklm"}
	return good, bad
}

func TestConsequencesOfRandomTexts(t *testing.T) {
	r := rand.New(rand.NewSource(1))
	good, bad := pieces()
	for i := range 30000 {
		from := good
		if i%3 == 0 {
			from = append(slices.Clone(good), bad...)
		}
		var s strings.Builder
		for range r.Intn(12) {
			s.WriteString(from[r.Intn(len(from))])
			if i%2 == 0 {
				s.WriteString(" ")
			}
		}
		checkConsequences(t, s.String())
	}
}

func TestConsequencesOfRandomBytes(t *testing.T) {
	r := rand.New(rand.NewSource(2))
	for range 5000 {
		b := make([]byte, r.Intn(60))
		r.Read(b)
		checkConsequences(t, string(b))
	}
}

func TestConsequencesBehindLineFeeds(t *testing.T) {
	for _, front := range []string{"", "a", "a 1;", "# x", "a # b", "service web {"} {
		for _, back := range []string{"", "a", "# y", "12 a-1{b,c}", "cores 2;# x\nb"} {
			want, _, _ := lexis.Tokens(back)
			first, _, _ := lexis.Tokens(front)
			all, at, e := lexis.Tokens(front + "\n" + back)
			for _, x := range want {
				x.At += len(front) + 1
				first = append(first, x)
			}
			if !slices.Equal(all, first) || at != 0 || e != api.OK {
				t.Errorf("Tokens of %q and %q = %v, %d, %d", front, back, all, at, e)
			}
		}
		checkError(t, front+"\nb 01", len(front)+3, api.ErrSyntax)
		checkError(t, front+"\nb abcdefghijklm", len(front)+3, api.ErrLimit)
	}
}
