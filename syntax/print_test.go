package syntax_test

import (
	"fmt"
	"math"
	"math/rand"
	"slices"
	"strings"
	"testing"

	"majordomo/api"
	"majordomo/syntax"
)

func service(name string, items ...api.Clause) api.Clause {
	return api.Clause{Kind: api.ClauseService, Names: []string{name}, Items: items}
}

// checkPrint checks the text of a tree, and that the tree is well formed.
func checkPrint(t *testing.T, want string, l ...api.Clause) {
	t.Helper()
	s, e := syntax.Print(l)
	if s != want || e != api.OK || !syntax.Formed(l) {
		t.Errorf("Print(%+v) = %q, %d, want %q, OK; Formed: %v", l, s, e, want, syntax.Formed(l))
	}
}

// checkNotFormed checks that a tree is not well formed, for Print and for Formed, whatever well-formed clauses stand around it.
func checkNotFormed(t *testing.T, c api.Clause) {
	t.Helper()
	good := api.Clause{Kind: api.ClauseBlast, A: 1}
	for _, l := range [][]api.Clause{{c}, {good, c}, {c, good}} {
		if s, e := syntax.Print(l); s != "" || e != api.ErrArg || syntax.Formed(l) {
			t.Errorf("Print(%+v) = %q, %d, want ErrArg; Formed: %v", l, s, e, syntax.Formed(l))
		}
	}
}

// checkItemNotFormed checks it for an item of a service.
func checkItemNotFormed(t *testing.T, i api.Clause) {
	t.Helper()
	good := api.Clause{Kind: api.ClauseCores, A: 1}
	checkNotFormed(t, service("a", i))
	checkNotFormed(t, service("a", good, i))
	checkNotFormed(t, service("a", i, good))
}

// P2.2: texts of trees.

func TestPrintClauses(t *testing.T) {
	checkPrint(t, "")
	checkPrint(t, "service a { }", service("a"))
	checkPrint(t, "service a { }", api.Clause{Kind: api.ClauseService, Names: []string{"a"}, Items: []api.Clause{}, At: -5})
	checkPrint(t, "window host 0 from 1 to 2 ;", api.Clause{Kind: api.ClauseWindow, Domain: api.DomainHost, A: 1, B: 2})
	checkPrint(t, "window loop 3 from 9 to 4 ;", api.Clause{Kind: api.ClauseWindow, Domain: api.DomainLoop, Index: 3, A: 9, B: 4})
	checkPrint(t, "approve rack 7 ;", api.Clause{Kind: api.ClauseApprove, Domain: api.DomainRack, Index: 7, Names: []string{}})
	checkPrint(t, "approve row 0 ;", api.Clause{Kind: api.ClauseApprove, Domain: api.DomainRow})
	checkPrint(t, "approve feed 1 ;", api.Clause{Kind: api.ClauseApprove, Domain: api.DomainFeed, Index: 1})
	checkPrint(t, "blast 999999999 ;", api.Clause{Kind: api.ClauseBlast, A: 999999999})
	checkPrint(t, "cap feed 2 at 300 ;", api.Clause{Kind: api.ClauseCap, Index: 2, A: 300})
	checkPrint(t, "blast 2 ; approve row 1 ;", api.Clause{Kind: api.ClauseBlast, A: 2, At: 77}, api.Clause{Kind: api.ClauseApprove, Domain: api.DomainRow, Index: 1, At: math.MinInt})
}

func TestPrintItems(t *testing.T) {
	checkPrint(t, "service web { cores 2 ; near db within 5 ; }",
		service("web", api.Clause{Kind: api.ClauseCores, A: 2}, api.Clause{Kind: api.ClauseNear, Names: []string{"db"}, A: 5}))
	for want, i := range map[string]api.Clause{
		"cores 0 ;":           {Kind: api.ClauseCores},
		"replicas 10 ;":       {Kind: api.ClauseReplicas, A: 10},
		"least 2 ;":           {Kind: api.ClauseLeast, A: 2},
		"firmware 3 ;":        {Kind: api.ClauseFirmware, A: 3},
		"spread 1 per host ;": {Kind: api.ClauseSpread, A: 1, Domain: api.DomainHost},
		"spread 2 per loop ;": {Kind: api.ClauseSpread, A: 2, Domain: api.DomainLoop},
		"apart b ;":           {Kind: api.ClauseApart, Names: []string{"b"}},
		"apart b , c-3 , b ;": {Kind: api.ClauseApart, Names: []string{"b", "c-3", "b"}},
		"near db within 0 ;":  {Kind: api.ClauseNear, Names: []string{"db"}},
	} {
		checkPrint(t, "service a { "+want+" }", service("a", i))
		i.At, i.Items = 9, []api.Clause{}
		checkPrint(t, "service a { "+want+" "+want+" } service b { "+want+" }", service("a", i, i), service("b", i))
	}
}

func TestPrintLimit(t *testing.T) {
	// A clause of 9 bytes and a space each, and a last one that fills the rest.
	l := slices.Repeat([]api.Clause{{Kind: api.ClauseBlast, A: 1}}, (api.MaxText-12)/10)
	for range 30 {
		l = append(l, api.Clause{Kind: api.ClauseBlast, A: 1})
		for a := 1; a < 1000000000; a *= 10 {
			l[len(l)-1].A = a
			want := strings.Repeat("blast 1 ; ", len(l)-1) + fmt.Sprintf("blast %d ;", a)
			s, e := syntax.Print(l)
			if len(want) <= api.MaxText && (s != want || e != api.OK) || len(want) > api.MaxText && (s != "" || e != api.ErrLimit) {
				t.Errorf("Print of %d bytes: %d bytes, %d", len(want), len(s), e)
			}
			if !syntax.Formed(l) {
				t.Errorf("Formed of %d clauses is false", len(l))
			}
		}
		l[len(l)-1].A = 1
	}
	apart := api.Clause{Kind: api.ClauseApart, Names: slices.Repeat([]string{"b"}, api.MaxText)}
	if s, e := syntax.Print([]api.Clause{service("a", apart)}); s != "" || e != api.ErrLimit || !syntax.Formed([]api.Clause{service("a", apart)}) {
		t.Errorf("Print of many names = %q, %d", s, e)
	}
	bad := append(slices.Clone(l), slices.Repeat(l, 30)...)
	bad = append(bad, api.Clause{Kind: api.ClauseBlast, A: -1})
	if s, e := syntax.Print(bad); s != "" || e != api.ErrArg {
		t.Errorf("Print of a long tree that is not well formed = %q, %d", s, e)
	}
	bad[0], bad[len(bad)-1] = bad[len(bad)-1], bad[0]
	if s, e := syntax.Print(bad); s != "" || e != api.ErrArg {
		t.Errorf("Print of a long tree that is not well formed in front = %q, %d", s, e)
	}
}

// P2.2, P2.3: trees that are not well formed.

// fields says for each kind which fields it has: N a name, M names, D Domain, I Index, A, B, L items.
var fields = map[api.ClauseKind]string{
	api.ClauseService: "NL", api.ClauseWindow: "DIAB", api.ClauseApprove: "DI", api.ClauseBlast: "A", api.ClauseCap: "IA",
	api.ClauseCores: "A", api.ClauseReplicas: "A", api.ClauseLeast: "A", api.ClauseSpread: "AD", api.ClauseApart: "M", api.ClauseNear: "NA", api.ClauseFirmware: "A",
}

func isItem(k api.ClauseKind) bool { return k >= api.ClauseCores }

// sample returns a well-formed clause or item of a kind.
func sample(k api.ClauseKind) api.Clause {
	c := api.Clause{Kind: k}
	for _, f := range fields[k] {
		switch f {
		case 'N', 'M':
			c.Names = []string{"a"}
		case 'D':
			c.Domain = api.DomainRow
		case 'I':
			c.Index = 3
		case 'A':
			c.A = 4
		case 'B':
			c.B = 5
		}
	}
	return c
}

// check checks a clause or an item, by its kind, that is well formed or not.
func check(t *testing.T, c api.Clause, formed bool) {
	t.Helper()
	l := []api.Clause{c}
	if isItem(c.Kind) {
		l = []api.Clause{service("x", c)}
	}
	if formed {
		if s, e := syntax.Print(l); s == "" || e != api.OK || !syntax.Formed(l) {
			t.Errorf("Print(%+v) = %q, %d; Formed: %v", l, s, e, syntax.Formed(l))
		}
		return
	}
	if isItem(c.Kind) {
		checkItemNotFormed(t, c)
	} else {
		checkNotFormed(t, c)
	}
}

func TestNotFormedFields(t *testing.T) {
	for k, f := range fields {
		check(t, sample(k), true)
		for _, n := range []int{1, 0, 999999999, 1000000000, math.MaxInt, -1, math.MinInt, 1 << 32, 9999999999} {
			for field, set := range map[string]func(c *api.Clause){
				"I": func(c *api.Clause) { c.Index = n },
				"A": func(c *api.Clause) { c.A = n },
				"B": func(c *api.Clause) { c.B = n },
			} {
				c := sample(k)
				set(&c)
				check(t, c, n == 0 || strings.Contains(f, field) && 0 <= n && n <= 999999999)
			}
		}
		for d := range 256 {
			c := sample(k)
			c.Domain = api.Domain(d)
			check(t, c, d == 0 && !strings.Contains(f, "D") || strings.Contains(f, "D") && 1 <= d && d <= 5)
		}
	}
}

func TestNotFormedNames(t *testing.T) {
	for k, f := range fields {
		for n := range 4 {
			c := sample(k)
			c.Names = slices.Repeat([]string{"b"}, n)
			check(t, c, n == 0 && !strings.ContainsAny(f, "NM") || n == 1 && strings.ContainsAny(f, "NM") || n > 1 && strings.Contains(f, "M"))
		}
		bad := append([]string{"", " ", "A", "aB", "1a", "-a", "a b", " a", "a ", "a#", "#", "a\n", "a,b", ";", "{", "}", ",", "7", "abcdefghijklm", "\u00e9", "a\u00e9", "a\x00", strings.Repeat("a", 5000)}, words...)
		for _, name := range bad {
			c := sample(k)
			c.Names = []string{name}
			check(t, c, false)
			c.Names = []string{"b", name}
			check(t, c, false)
			c.Names = []string{name, "b", "b"}
			check(t, c, false)
		}
		for _, name := range []string{"a", "z-", "abcdefghijkl", "a0-9", "rows", "window-1", "item"} {
			c := sample(k)
			c.Names = []string{name}
			check(t, c, strings.ContainsAny(f, "NM"))
		}
	}
}

func TestNotFormedKindsAndItems(t *testing.T) {
	for k := range 256 {
		kind := api.ClauseKind(k)
		f, known := fields[kind]
		if !known || isItem(kind) {
			checkNotFormed(t, sample(kind))
		}
		if !known || !isItem(kind) {
			checkItemNotFormed(t, sample(kind))
		}
		c := sample(kind)
		c.Items = []api.Clause{{Kind: api.ClauseCores, A: 1}}
		if known {
			check(t, c, strings.Contains(f, "L"))
		}
		c.Items = []api.Clause{{}}
		checkNotFormed(t, c)
		checkItemNotFormed(t, c)
	}
	checkItemNotFormed(t, service("b", api.Clause{Kind: api.ClauseCores, A: 1}))
	checkItemNotFormed(t, service("b"))
}

// deep returns a tree of services in services.
func deep(levels int, last string) []api.Clause {
	l := []api.Clause{service(last)}
	for range levels {
		l = []api.Clause{service("a", l...)}
	}
	return l
}

func TestDeepTrees(t *testing.T) {
	for _, levels := range []int{1, 2, 3, 1000, 1 << 16} {
		l := deep(levels, "a")
		if s, e := syntax.Print(l); s != "" || e != api.ErrArg || syntax.Formed(l) {
			t.Errorf("Print of %d levels = %q, %d", levels, s, e)
		}
		if !syntax.Same(l, deep(levels, "a")) || syntax.Same(l, deep(levels, "b")) || syntax.Same(l, deep(levels-1, "a")) {
			t.Errorf("Same of %d levels is wrong", levels)
		}
	}
}

// P2.3: equal trees.

func TestSame(t *testing.T) {
	whole := api.Clause{Kind: api.ClauseService, Names: []string{"a", "b"}, Domain: api.DomainRack, Index: 1, A: 2, B: 3, Items: []api.Clause{{Kind: api.ClauseCores, A: 4}, {Kind: api.ClauseNear}}, At: 5}
	changes := []func(c *api.Clause){
		func(c *api.Clause) { c.Kind = api.ClauseWindow },
		func(c *api.Clause) { c.Names = []string{"a", "c"} },
		func(c *api.Clause) { c.Names = []string{"b", "a"} },
		func(c *api.Clause) { c.Names = []string{"a"} },
		func(c *api.Clause) { c.Names = []string{"a", "b", "b"} },
		func(c *api.Clause) { c.Names = nil },
		func(c *api.Clause) { c.Domain = api.DomainRow },
		func(c *api.Clause) { c.Index = 0 },
		func(c *api.Clause) { c.A = -2 },
		func(c *api.Clause) { c.B = 2 },
		func(c *api.Clause) { c.Items = nil },
		func(c *api.Clause) { c.Items = c.Items[:1] },
		func(c *api.Clause) { c.Items = append(slices.Clone(c.Items), api.Clause{}) },
		func(c *api.Clause) { c.Items = []api.Clause{c.Items[1], c.Items[0]} },
		func(c *api.Clause) { c.Items = []api.Clause{{Kind: api.ClauseCores, A: 5}, {Kind: api.ClauseNear}} },
	}
	for i, change := range changes {
		other := whole
		change(&other)
		for _, lists := range [][2][]api.Clause{
			{{whole}, {other}},
			{{whole, whole}, {whole, other}},
			{{whole, whole}, {other, whole}},
			{{service("s", whole)}, {service("s", other)}},
			{{service("s", service("s", whole))}, {service("s", service("s", other))}},
		} {
			if syntax.Same(lists[0], lists[1]) || syntax.Same(lists[1], lists[0]) {
				t.Errorf("change %d: Same(%+v, %+v)", i, lists[0], lists[1])
			}
			if !syntax.Same(lists[0], lists[0]) || !syntax.Same(lists[1], lists[1]) {
				t.Errorf("change %d: not Same with itself: %+v", i, lists)
			}
		}
	}
}

func TestSameButForOffsets(t *testing.T) {
	a := []api.Clause{service("s", api.Clause{Kind: api.ClauseApart, Names: []string{"a"}, At: 3}), {At: 1}}
	b := []api.Clause{service("s", api.Clause{Kind: api.ClauseApart, Names: []string{"a"}, At: 4}), {At: 2}}
	b[0].At = -7
	if !syntax.Same(a, b) || !syntax.Same(b, a) {
		t.Errorf("not Same: %+v and %+v", a, b)
	}
}

func TestSameOfEmptyLists(t *testing.T) {
	empty := []api.Clause{{Names: []string{}, Items: []api.Clause{}}}
	if !syntax.Same(nil, nil) || !syntax.Same(nil, []api.Clause{}) || !syntax.Same([]api.Clause{{}}, empty) || !syntax.Same(empty, []api.Clause{{}}) {
		t.Error("nil and empty lists are not Same")
	}
	if syntax.Same(nil, []api.Clause{{}}) || syntax.Same([]api.Clause{{}}, nil) || syntax.Same([]api.Clause{{}}, []api.Clause{{}, {}}) {
		t.Error("lists of other lengths are Same")
	}
	if !syntax.Formed(nil) || !syntax.Formed([]api.Clause{}) {
		t.Error("a tree without clauses is not well formed")
	}
}

// P2.4: Parse and Print.

// randomTree returns a well-formed tree.
func randomTree(r *rand.Rand) []api.Clause {
	number := func() int { return r.Intn(1000000000) >> (r.Intn(4) * 9) }
	name := func() string { return []string{"a", "b-1", "rows", "abcdefghijkl", "to-"}[r.Intn(5)] }
	var clause func(k api.ClauseKind) api.Clause
	clause = func(k api.ClauseKind) api.Clause {
		c := api.Clause{Kind: k, At: r.Intn(100) - 50}
		for _, f := range fields[k] {
			switch f {
			case 'N':
				c.Names = []string{name()}
			case 'M':
				for range 1 + r.Intn(4) {
					c.Names = append(c.Names, name())
				}
			case 'D':
				c.Domain = api.Domain(1 + r.Intn(5))
			case 'I':
				c.Index = number()
			case 'A':
				c.A = number()
			case 'B':
				c.B = number()
			case 'L':
				for range r.Intn(5) {
					c.Items = append(c.Items, clause(api.ClauseCores+api.ClauseKind(r.Intn(7))))
				}
			}
		}
		return c
	}
	var l []api.Clause
	for range r.Intn(6) {
		l = append(l, clause(api.ClauseService+api.ClauseKind(r.Intn(5))))
	}
	return l
}

func TestParseOfPrint(t *testing.T) {
	r := rand.New(rand.NewSource(3))
	for range 5000 {
		l := randomTree(r)
		before := form(l)
		s, e := syntax.Print(l)
		if e != api.OK || !syntax.Formed(l) {
			t.Fatalf("Print(%+v): %d", l, e)
		}
		m, at, e := syntax.Parse(s)
		if at != 0 || e != api.OK || !syntax.Same(l, m) {
			t.Fatalf("Parse(%q) = %+v, %d, %d, want %+v", s, m, at, e, l)
		}
		if form(l) != before {
			t.Fatalf("the tree was changed: %s, before %s", form(l), before)
		}
	}
}

func TestPrintOfParse(t *testing.T) {
	r := rand.New(rand.NewSource(4))
	for range 5000 {
		s := randomText(r)
		l, _, e := syntax.Parse(strings.ReplaceAll(s, " ", []string{" ", "\n", " # ?\n\t"}[r.Intn(3)]))
		if e != api.OK || !syntax.Formed(l) {
			t.Fatalf("Parse(%q): %d", s, e)
		}
		printed, e := syntax.Print(l)
		if printed != s || e != api.OK {
			t.Fatalf("Print = %q, %d, want %q", printed, e, s)
		}
		m, _, e := syntax.Parse(printed)
		again, e2 := syntax.Print(m)
		if e != api.OK || e2 != api.OK || !syntax.Same(l, m) || again != printed {
			t.Fatalf("read again: %q, %d, %d, want %q", again, e, e2, printed)
		}
	}
}

func TestWhatFollowsAnErrorDoesNotMatter(t *testing.T) {
	for s, at := range map[string]int{"blast;": 5, "service rack": 8, "cores": 0, "service a { blast": 12, "window row 1 from to": 18, "approve row row": 12, "}": 0, "service a { } }": 14} {
		for _, tail := range []string{"", " ", " 1 2 3", ";", " }", " { }", " # ?", "\nblast 1;", " service a { }"} {
			checkError(t, s+tail, at, api.ErrSyntax)
		}
		checkError(t, s+" ?", len(s)+1, api.ErrSyntax)
	}
}

// DOC.md, rule 3: memory.

func TestResultsShareNoMemory(t *testing.T) {
	s := "service a{apart b,c;cores 1;} service d{apart e;cores 2;}"
	l, _, _ := syntax.Parse(s)
	want := form(l)
	other, _, _ := syntax.Parse(s)
	other[0].Names[0], other[0].Items[0].Names[1], other[1].Items[1].A = "x", "y", 7
	if form(l) != want {
		t.Errorf("a change of one result changed another one: %s, before %s", form(l), want)
	}
	second := form(l[1:])
	l[0].Names = append(l[0].Names, "x")
	l[0].Items[0].Names = append(l[0].Items[0].Names, "y")
	l[0].Items = append(l[0].Items, l[0].Items...)
	if form(l[1:]) != second {
		t.Errorf("a longer list of the first service changed the second one: %s, before %s", form(l[1:]), second)
	}
}
