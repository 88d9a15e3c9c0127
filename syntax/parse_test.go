package syntax_test

import (
	"fmt"
	"math/rand"
	"slices"
	"strings"
	"testing"

	"majordomo/api"
	"majordomo/lexis"
	"majordomo/syntax"
)

// form writes a tree with all its fields and offsets; nil and empty lists are written alike.
func form(l []api.Clause) string { return fmt.Sprintf("%+v", l) }

// checkTree checks that a text has this tree, offsets included.
func checkTree(t *testing.T, s string, want ...api.Clause) {
	t.Helper()
	l, at, e := syntax.Parse(s)
	if form(l) != form(want) || at != 0 || e != api.OK {
		t.Errorf("Parse(%q) = %+v, %d, %d, want %+v, 0, OK", s, l, at, e, want)
	}
}

// checkError checks that a text has this error at this offset, and that there is no tree with it.
func checkError(t *testing.T, s string, at int, e api.Errno) {
	t.Helper()
	l, gotAt, got := syntax.Parse(s)
	if len(l) != 0 || gotAt != at || got != e {
		t.Errorf("Parse(%.80q) = %+v, %d, %d, want none, %d, %d", s, l, gotAt, got, at, e)
	}
}

// P2.1: the trees of texts.

func TestParseExamples(t *testing.T) {
	checkTree(t, "blast 2; approve row 1;",
		api.Clause{Kind: api.ClauseBlast, A: 2},
		api.Clause{Kind: api.ClauseApprove, Domain: api.DomainRow, Index: 1, At: 9})
	checkTree(t, "service web{cores 2;near db within 5;}",
		api.Clause{Kind: api.ClauseService, Names: []string{"web"}, Items: []api.Clause{
			{Kind: api.ClauseCores, A: 2, At: 12},
			{Kind: api.ClauseNear, Names: []string{"db"}, A: 5, At: 20},
		}})
	checkError(t, "blast;", 5, api.ErrSyntax)
	checkError(t, "service rack {}", 8, api.ErrSyntax)
	checkError(t, "cores 2;", 0, api.ErrSyntax)
	checkError(t, "service a { blast 1;", 12, api.ErrSyntax)
}

func TestParseNothing(t *testing.T) {
	for _, s := range []string{"", " ", "\n\t\r ", "# blast 2;", "#\n# A\n"} {
		checkTree(t, s)
	}
}

func TestParseClauses(t *testing.T) {
	for _, c := range []struct {
		s    string
		want api.Clause
	}{
		{"service a { }", api.Clause{Kind: api.ClauseService, Names: []string{"a"}}},
		{"window host 0 from 1 to 2;", api.Clause{Kind: api.ClauseWindow, Domain: api.DomainHost, Index: 0, A: 1, B: 2}},
		{"window rack 3 from 20 to 10;", api.Clause{Kind: api.ClauseWindow, Domain: api.DomainRack, Index: 3, A: 20, B: 10}},
		{"window row 4 from 5 to 5;", api.Clause{Kind: api.ClauseWindow, Domain: api.DomainRow, Index: 4, A: 5, B: 5}},
		{"window feed 6 from 0 to 7;", api.Clause{Kind: api.ClauseWindow, Domain: api.DomainFeed, Index: 6, B: 7}},
		{"window loop 999999999 from 8 to 0;", api.Clause{Kind: api.ClauseWindow, Domain: api.DomainLoop, Index: 999999999, A: 8}},
		{"approve host 1;", api.Clause{Kind: api.ClauseApprove, Domain: api.DomainHost, Index: 1}},
		{"approve rack 0;", api.Clause{Kind: api.ClauseApprove, Domain: api.DomainRack}},
		{"approve row 2;", api.Clause{Kind: api.ClauseApprove, Domain: api.DomainRow, Index: 2}},
		{"approve feed 3;", api.Clause{Kind: api.ClauseApprove, Domain: api.DomainFeed, Index: 3}},
		{"approve loop 4;", api.Clause{Kind: api.ClauseApprove, Domain: api.DomainLoop, Index: 4}},
		{"blast 0;", api.Clause{Kind: api.ClauseBlast}},
		{"blast 999999999;", api.Clause{Kind: api.ClauseBlast, A: 999999999}},
		{"cap feed 1 at 300;", api.Clause{Kind: api.ClauseCap, Index: 1, A: 300}},
		{"cap feed 0 at 0;", api.Clause{Kind: api.ClauseCap}},
	} {
		checkTree(t, c.s, c.want)
		c.want.At = 4
		checkTree(t, "# x\n"+c.s+"#", c.want)
	}
}

func TestParseItems(t *testing.T) {
	for _, c := range []struct {
		s    string
		want api.Clause
	}{
		{"cores 4;", api.Clause{Kind: api.ClauseCores, A: 4}},
		{"replicas 3;", api.Clause{Kind: api.ClauseReplicas, A: 3}},
		{"least 2;", api.Clause{Kind: api.ClauseLeast, A: 2}},
		{"firmware 11;", api.Clause{Kind: api.ClauseFirmware, A: 11}},
		{"spread 1 per host;", api.Clause{Kind: api.ClauseSpread, A: 1, Domain: api.DomainHost}},
		{"spread 2 per rack;", api.Clause{Kind: api.ClauseSpread, A: 2, Domain: api.DomainRack}},
		{"spread 3 per row;", api.Clause{Kind: api.ClauseSpread, A: 3, Domain: api.DomainRow}},
		{"spread 4 per feed;", api.Clause{Kind: api.ClauseSpread, A: 4, Domain: api.DomainFeed}},
		{"spread 0 per loop;", api.Clause{Kind: api.ClauseSpread, A: 0, Domain: api.DomainLoop}},
		{"apart b;", api.Clause{Kind: api.ClauseApart, Names: []string{"b"}}},
		{"apart b,c;", api.Clause{Kind: api.ClauseApart, Names: []string{"b", "c"}}},
		{"apart c , b, c,c ;", api.Clause{Kind: api.ClauseApart, Names: []string{"c", "b", "c", "c"}}},
		{"near db within 5;", api.Clause{Kind: api.ClauseNear, Names: []string{"db"}, A: 5}},
		{"near hosts-1 within 0;", api.Clause{Kind: api.ClauseNear, Names: []string{"hosts-1"}}},
	} {
		c.want.At = 10
		checkTree(t, "service a{"+c.s+"}", api.Clause{Kind: api.ClauseService, Names: []string{"a"}, Items: []api.Clause{c.want}})
		again := c.want
		again.At += len(c.s) + 1
		checkTree(t, "service a{"+c.s+" "+c.s+"}", api.Clause{Kind: api.ClauseService, Names: []string{"a"}, Items: []api.Clause{c.want, again}})
	}
}

func TestParseOffsets(t *testing.T) {
	checkTree(t, " # r\n\tblast 1 ;\r\nservice a\n{ # cores 9;\n  cores\t1;least 2;}service b{}cap feed 1 at 2;",
		api.Clause{Kind: api.ClauseBlast, A: 1, At: 6},
		api.Clause{Kind: api.ClauseService, Names: []string{"a"}, At: 17, Items: []api.Clause{
			{Kind: api.ClauseCores, A: 1, At: 42},
			{Kind: api.ClauseLeast, A: 2, At: 50},
		}},
		api.Clause{Kind: api.ClauseService, Names: []string{"b"}, At: 59},
		api.Clause{Kind: api.ClauseCap, Index: 1, A: 2, At: 70})
}

func TestParseLongestText(t *testing.T) {
	s := strings.Repeat("blast 1;", api.MaxText/8)
	l, at, e := syntax.Parse(s)
	if len(l) != api.MaxText/8 || at != 0 || e != api.OK {
		t.Errorf("Parse of a text of %d bytes: %d clauses, %d, %d", len(s), len(l), at, e)
	}
	checkError(t, s+" ", api.MaxText, api.ErrLimit)
}

// P2.1: words are no names, and all else is.

var words = []string{
	"service", "window", "approve", "blast", "cap", "cores", "replicas", "least", "spread", "apart", "near", "firmware",
	"from", "to", "at", "per", "within", "host", "rack", "row", "feed", "loop",
}

func TestParseWordsAndNames(t *testing.T) {
	for _, w := range words {
		checkError(t, "service "+w+" { }", 8, api.ErrSyntax)
		checkError(t, "service a { apart "+w+"; }", 18, api.ErrSyntax)
		checkError(t, "service a { apart b, "+w+"; }", 21, api.ErrSyntax)
		checkError(t, "service a { near "+w+" within 1; }", 17, api.ErrSyntax)
	}
	for _, w := range append([]string{"a", "z", "text", "clause", "item", "area", "scope", "name", "number", "servic", "row-", "row1"}, words...) {
		if !slices.Contains(words, w) {
			checkTree(t, "service "+w+"{}", api.Clause{Kind: api.ClauseService, Names: []string{w}})
		}
		if longer := w + "s"; len(longer) <= api.MaxName {
			checkTree(t, "service "+longer+"{}", api.Clause{Kind: api.ClauseService, Names: []string{longer}})
		}
		for _, scope := range []string{"approve ", "window "} {
			if l, at, e := syntax.Parse(scope + w + " 1"); (at == len(scope)) == isScope(w) || len(l) != 0 || e != api.ErrSyntax {
				t.Errorf("Parse(%q): %d at %d", scope+w+" 1", e, at)
			}
		}
	}
}

func isScope(s string) bool {
	return slices.Contains([]string{"host", "rack", "row", "feed", "loop"}, s)
}

// P2.1: errors.

func TestParseErrorsOfTokens(t *testing.T) {
	for _, s := range []string{"blast 1; ?", "?", "blast 01;", "blast blast 01;", "} A", "blast 1234567890;", "service abcdefghijklm {}", "; # x\n $", strings.Repeat(" ", api.MaxText+1), "service -"} {
		_, at, e := lexis.Tokens(s)
		if e == api.OK {
			t.Fatalf("Tokens(%q) has no error", s)
		}
		checkError(t, s, at, e)
	}
	checkError(t, "} 01", 2, api.ErrSyntax)
	checkError(t, "} 1234567890", 2, api.ErrLimit)
}

func TestParseErrorsAtTheEnd(t *testing.T) {
	checkError(t, "service", 7, api.ErrSyntax)
	checkError(t, "service ", 8, api.ErrSyntax)
	checkError(t, "service a # {}", 14, api.ErrSyntax)
	checkError(t, "blast 1; service a { cores 1;\n", 30, api.ErrSyntax)
}

// grammar is the chapter's grammar once more, by clauses and items: N is a name, 9 a number, S a scope, and * what follows a name of apart.
var grammar = struct{ clauses, items []string }{
	[]string{"service N {", "window S 9 from 9 to 9 ;", "approve S 9 ;", "blast 9 ;", "cap feed 9 at 9 ;"},
	[]string{"cores 9 ;", "replicas 9 ;", "least 9 ;", "spread 9 per S ;", "apart N *", "near N within 9 ;", "firmware 9 ;", "}"},
}

func fits(slot, token string) bool {
	letter := 'a' <= token[0] && token[0] <= 'z'
	switch slot {
	case "N":
		return letter && !slices.Contains(words, token)
	case "9":
		return '0' <= token[0] && token[0] <= '9'
	case "S":
		return isScope(token)
	case "*":
		return token == "," || token == ";"
	}
	return slot == token
}

// judge returns the place of the first token that no text can have there (or how many there are), and whether the tokens before it are a text.
func judge(tokens []string) (int, bool) {
	inService := false
	var rest []string
	for i, token := range tokens {
		if len(rest) == 0 {
			from := grammar.clauses
			if inService {
				from = grammar.items
			}
			k := slices.IndexFunc(from, func(g string) bool { return strings.Fields(g)[0] == token })
			if k < 0 {
				return i, !inService
			}
			rest = strings.Fields(from[k])
		}
		if !fits(rest[0], token) {
			return i, false
		}
		switch {
		case token == "{":
			inService = true
		case token == "}":
			inService = false
		case token == "," && rest[0] == "*":
			rest = []string{"", "N", "*"}
		}
		rest = rest[1:]
	}
	return len(tokens), len(rest) == 0 && !inService
}

// checkJudged compares Parse of tokens with the grammar; blank stands between them.
func checkJudged(t *testing.T, tokens []string, blank string) {
	t.Helper()
	s := strings.Join(tokens, blank)
	bad, whole := judge(tokens)
	switch {
	case bad < len(tokens):
		before := tokens[:bad]
		checkError(t, s, len(strings.Join(before, blank))+min(bad, 1)*len(blank), api.ErrSyntax)
	case !whole:
		checkError(t, s, len(s), api.ErrSyntax)
	default:
		l, at, e := syntax.Parse(s)
		printed, pe := syntax.Print(l)
		if at != 0 || e != api.OK || pe != api.OK || printed != strings.Join(tokens, " ") {
			t.Errorf("Parse(%q): %d at %d, printed %q, %d", s, e, at, printed, pe)
		}
	}
}

var alphabet = append([]string{"a", "rows", "b-1", "0", "7", "999999999", "{", "}", ";", ","}, words...)

// TestParseByGrammar goes through the beginnings of texts, up to a length, with every token behind each of them.
func TestParseByGrammar(t *testing.T) {
	n := 0
	var visit func(tokens []string)
	visit = func(tokens []string) {
		for _, token := range alphabet {
			n++
			more := append(slices.Clone(tokens), token)
			checkJudged(t, more, " ")
			bad, _ := judge(more)
			if bad == len(more) && len(more) < 13 && !slices.Contains([]string{"b-1", "rows", "0", "999999999", "host", "rack", "loop"}, token) {
				visit(more)
			}
		}
		if t.Failed() {
			t.FailNow()
		}
	}
	visit(nil)
	if n < 100000 {
		t.Errorf("only %d texts", n)
	}
}

// TestParseByGrammarAtRandom goes through longer texts, with a fault in most of them.
func TestParseByGrammarAtRandom(t *testing.T) {
	r := rand.New(rand.NewSource(2))
	for range 20000 {
		tokens := strings.Fields(randomText(r))
		for range r.Intn(3) {
			switch i := r.Intn(len(tokens) + 1); {
			case i == len(tokens):
				tokens = append(tokens, alphabet[r.Intn(len(alphabet))])
			case r.Intn(3) == 0:
				tokens = slices.Delete(tokens, i, i+1)
			case r.Intn(2) == 0:
				tokens[i] = alphabet[r.Intn(len(alphabet))]
			default:
				tokens = tokens[:i]
			}
		}
		checkJudged(t, tokens, []string{" ", "\n\t", " # x {\n"}[r.Intn(3)])
		if t.Failed() {
			return
		}
	}
}

// randomText returns the tokens of a text, made from the grammar, with spaces between them.
func randomText(r *rand.Rand) string {
	var tokens []string
	inService := false
	for len(tokens) < 40 && r.Intn(12) > 0 || inService {
		from := grammar.clauses
		if inService {
			from = grammar.items
		}
		rest := strings.Fields(from[r.Intn(len(from))])
		for len(rest) > 0 {
			token := rest[0]
			switch rest[0] {
			case "N":
				token = []string{"a", "b-1", "rows", "abcdefghijkl"}[r.Intn(4)]
			case "9":
				token = fmt.Sprint(r.Intn(1000000000) >> (r.Intn(4) * 9))
			case "S":
				token = []string{"host", "rack", "row", "feed", "loop"}[r.Intn(5)]
			case "*":
				token = ";"
				if r.Intn(2) == 0 {
					token = ","
					rest = []string{"", "N", "*"}
				}
			case "{":
				inService = true
			case "}":
				inService = false
			}
			tokens = append(tokens, token)
			rest = rest[1:]
		}
	}
	return strings.Join(tokens, " ")
}
