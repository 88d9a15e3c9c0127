package check_test

import (
	"fmt"
	"math"
	"strings"
	"testing"

	"majordomo/api"
	"majordomo/check"
	"majordomo/syntax"
)

// place is a site that has another number of each kind: 5 hosts, 4 racks in the rows 0, 2 and 3, 3 feeds, 2 loops.
func place() api.Site {
	return api.Site{
		Feeds:    []api.Feed{{Limit: 900}, {Limit: 0}, {Limit: 500}},
		Breakers: []api.Breaker{{Feed: 1, Limit: 2, Slow: 3, Fast: 4}, {Feed: 2}, {}, {}, {}, {}, {}},
		Loops:    []api.Loop{{Carry: 10, Delay: 1}, {Carry: 20}},
		Racks:    []api.Rack{{Row: 2, Breaker: 1}, {Row: 0}, {Row: 2, Loop: 1}, {Row: 3, Switch: 5}},
		Switches: 6,
		Links:    []api.Link{{A: 1, B: 2, Latency: 3}},
		Hosts:    []api.Host{{Cores: 4}, {Rack: 1}, {Idle: 7}, {PerCore: 8}, {}},
	}
}

// form writes an intent, a tree or a site with all its fields; nil and empty lists are written alike.
func form(x any) string { return fmt.Sprintf("%+v", x) }

// read returns the tree of a text.
func read(t *testing.T, s string) []api.Clause {
	t.Helper()
	l, at, e := syntax.Parse(s)
	if e != api.OK {
		t.Fatalf("Parse(%q): %d at %d", s, e, at)
	}
	return l
}

// checkMeaning checks that a text has this meaning, and that the meaning is valid.
func checkMeaning(t *testing.T, s string, site api.Site, want api.Intent) {
	t.Helper()
	i, at, e := check.Check(read(t, s), site)
	if form(i) != form(want) || at != 0 || e != api.OK {
		t.Errorf("Check(%q) = %+v, %d, %d, want %+v, 0, OK", s, i, at, e, want)
	}
	if !check.Valid(i, site) || !check.Valid(want, site) {
		t.Errorf("the meaning of %q is not valid", s)
	}
}

// checkFine checks that a text has a meaning.
func checkFine(t *testing.T, s string) {
	t.Helper()
	if _, at, e := check.Check(read(t, s), place()); at != 0 || e != api.OK {
		t.Errorf("Check(%q): %d at %d, want OK", s, e, at)
	}
}

// checkFault checks that a text has this error where the sign ^ stands in it, and that there is no intent with it.
func checkFault(t *testing.T, marked string, want api.Errno) {
	t.Helper()
	at := strings.Index(marked, "^")
	s := strings.Replace(marked, "^", "", 1)
	if at < 0 {
		t.Fatalf("no sign in %q", marked)
	}
	i, gotAt, e := check.Check(read(t, s), place())
	if form(i) != form(api.Intent{}) || gotAt != at || e != want {
		t.Errorf("Check(%q) = %+v, %d, %d, want none, %d, %d", s, i, gotAt, e, at, want)
	}
}

// P3.1: meanings.

func TestCheckExamples(t *testing.T) {
	site := api.Site{Feeds: []api.Feed{{Limit: 900}}, Racks: []api.Rack{{Row: 0}, {Row: 1}}, Hosts: make([]api.Host, 4)}
	checkMeaning(t, "service web { cores 2; replicas 3; } blast 1;", site, api.Intent{
		Names:  []string{"web"},
		Wish:   api.Wish{Services: []api.Service{{Cores: 2, Replicas: 3}}},
		Policy: api.Policy{Blast: 1},
	})
	checkMeaning(t, "service a { cores 1; replicas 1; near b within 3; } service b { cores 1; replicas 1; apart a; }", site, api.Intent{
		Names: []string{"a", "b"},
		Wish: api.Wish{Services: []api.Service{
			{Cores: 1, Replicas: 1, Near: []api.Near{{Service: 1, Latency: 3}}},
			{Cores: 1, Replicas: 1, Apart: []int{0}},
		}},
	})
	for s, want := range map[string]api.Errno{
		"service a { cores 1; }": api.ErrNone,
		"approve row 2;":         api.ErrNone,
		"cap feed 0 at 901;":     api.ErrRange,
	} {
		if i, at, e := check.Check(read(t, s), site); form(i) != form(api.Intent{}) || at != 0 || e != want {
			t.Errorf("Check(%q) = %+v, %d, %d, want %d at 0", s, i, at, e, want)
		}
	}
}

func TestCheckNothing(t *testing.T) {
	for _, site := range []api.Site{{}, place(), {Feeds: []api.Feed{}, Hosts: []api.Host{}}} {
		checkMeaning(t, "", site, api.Intent{})
		for _, l := range [][]api.Clause{nil, {}} {
			if i, at, e := check.Check(l, site); form(i) != form(api.Intent{}) || at != 0 || e != api.OK {
				t.Errorf("Check of an empty tree = %+v, %d, %d", i, at, e)
			}
		}
	}
	checkMeaning(t, "blast 3; service a { cores 1; replicas 0; spread 1 per feed; }", api.Site{}, api.Intent{
		Names:  []string{"a"},
		Wish:   api.Wish{Services: []api.Service{{Cores: 1, Domain: api.DomainFeed, Spread: 1}}},
		Policy: api.Policy{Blast: 3},
	})
	checkMeaning(t, "blast 4;", place(), api.Intent{Policy: api.Policy{Blast: 4}})
}

func TestCheckItems(t *testing.T) {
	for items, want := range map[string]api.Service{
		"":                                  {},
		"least 2;":                          {Least: 2},
		"least 0;":                          {},
		"firmware 9;":                       {Firmware: 9},
		"firmware 0;":                       {},
		"spread 1 per host;":                {Domain: api.DomainHost, Spread: 1},
		"spread 2 per rack;":                {Domain: api.DomainRack, Spread: 2},
		"spread 3 per row;":                 {Domain: api.DomainRow, Spread: 3},
		"spread 4 per feed;":                {Domain: api.DomainFeed, Spread: 4},
		"spread 24 per loop;":               {Domain: api.DomainLoop, Spread: 24},
		"apart b;":                          {Apart: []int{0}},
		"apart d, b;":                       {Apart: []int{0, 2}},
		"apart d; apart c; apart b;":        {Apart: []int{0, 2, 3}},
		"near d within 0;":                  {Near: []api.Near{{Service: 2}}},
		"near c within 5; near b within 6;": {Near: []api.Near{{Service: 0, Latency: 6}, {Service: 3, Latency: 5}}},
		"near b within 1; apart b;":         {Apart: []int{0}, Near: []api.Near{{Service: 0, Latency: 1}}},
		"firmware 1; spread 5 per row; least 3; near d within 2; apart c,b,d;": {
			Least: 3, Domain: api.DomainRow, Spread: 5, Firmware: 1, Apart: []int{0, 2, 3}, Near: []api.Near{{Service: 2, Latency: 2}}},
	} {
		want.Cores, want.Replicas = 7, 3
		small := api.Service{Cores: 1}
		intent := api.Intent{Names: []string{"b", "a", "d", "c"}, Wish: api.Wish{Services: []api.Service{small, want, small, small}}}
		for _, own := range []string{"cores 7; replicas 3; " + items, items + " replicas 3; cores 7;", "replicas 3; " + items + " cores 7;"} {
			text := "service b { cores 1; replicas 0; } service a { " + own + " } service d { replicas 0; cores 1; } service c { cores 1; replicas 0; }"
			checkMeaning(t, text, place(), intent)
		}
	}
}

func TestCheckPolicy(t *testing.T) {
	checkMeaning(t, "cap feed 2 at 7; window row 3 from 8 to 9; approve rack 3; blast 2; approve host 0; window row 3 from 8 to 9; cap feed 0 at 900; "+
		"window feed 0 from 0 to 1; approve rack 0; cap feed 1 at 0; window host 4 from 1 to 1000000; approve loop 1;", place(),
		api.Intent{Policy: api.Policy{
			Windows: []api.Window{
				{Domain: api.DomainRow, Index: 3, From: 8, To: 9}, {Domain: api.DomainRow, Index: 3, From: 8, To: 9},
				{Domain: api.DomainFeed, From: 0, To: 1}, {Domain: api.DomainHost, Index: 4, From: 1, To: 1000000}},
			Approvals: []api.Area{{Domain: api.DomainRack, Index: 3}, {Domain: api.DomainHost}, {Domain: api.DomainRack}, {Domain: api.DomainLoop, Index: 1}},
			Blast:     2,
			Caps:      []api.Cap{{Feed: 2, Watts: 7}, {Feed: 0, Watts: 900}, {Feed: 1}},
		}})
}

func TestCheckServicesAmongOtherClauses(t *testing.T) {
	checkMeaning(t, "blast 1; service z { cores 1; replicas 2; near a within 4; } approve row 0; service a { cores 2; replicas 1; apart z, m; } cap feed 0 at 1; service m { replicas 0; cores 3; }", place(),
		api.Intent{
			Names: []string{"z", "a", "m"},
			Wish: api.Wish{Services: []api.Service{
				{Cores: 1, Replicas: 2, Near: []api.Near{{Service: 1, Latency: 4}}},
				{Cores: 2, Replicas: 1, Apart: []int{0, 2}},
				{Cores: 3}}},
			Policy: api.Policy{Approvals: []api.Area{{Domain: api.DomainRow}}, Blast: 1, Caps: []api.Cap{{Feed: 0, Watts: 1}}},
		})
}

// P3.1: trees that are not well formed.

func TestCheckNotFormed(t *testing.T) {
	good := api.Clause{Kind: api.ClauseBlast, A: 1, At: 3}
	fault := api.Clause{Kind: api.ClauseBlast, A: 0, At: 4}
	for _, c := range []api.Clause{
		{},
		{Kind: 255, At: 9},
		{Kind: api.ClauseCores, A: 1, At: 9},
		{Kind: api.ClauseService, At: 9},
		{Kind: api.ClauseService, Names: []string{"host"}, At: 9},
		{Kind: api.ClauseService, Names: []string{"a", "b"}, At: 9},
		{Kind: api.ClauseService, Names: []string{"a"}, At: 9, Items: []api.Clause{{Kind: api.ClauseBlast, A: 1}}},
		{Kind: api.ClauseService, Names: []string{"a"}, At: 9, Items: []api.Clause{{Kind: api.ClauseApart}}},
		{Kind: api.ClauseService, Names: []string{"a"}, At: 9, Items: []api.Clause{{Kind: api.ClauseNear}}},
		{Kind: api.ClauseService, Names: []string{"a"}, At: 9, Items: []api.Clause{{Kind: api.ClauseCores, A: -1}}},
		{Kind: api.ClauseApprove, At: 9},
		{Kind: api.ClauseApprove, Domain: api.DomainLoop + 1, At: 9},
		{Kind: api.ClauseWindow, Domain: api.DomainHost, Index: -1, B: 1, At: 9},
		{Kind: api.ClauseCap, A: math.MinInt, At: 9},
		{Kind: api.ClauseBlast, A: math.MaxInt, At: 9},
	} {
		for _, l := range [][]api.Clause{{c}, {good, c}, {c, good}, {fault, c}, {good, good, c}} {
			if i, at, e := check.Check(l, place()); form(i) != form(api.Intent{}) || at != 0 || e != api.ErrArg {
				t.Errorf("Check(%+v) = %+v, %d, %d, want ErrArg and 0", l, i, at, e)
			}
		}
	}
}

// P3.1: the ends of ranges, and one beyond.

func TestCheckNumbersOfItems(t *testing.T) {
	for _, c := range []struct {
		item        string // with a letter N for its number
		least, most int
	}{
		{"cores N;", 1, 1000},
		{"replicas N;", 0, 24},
		{"spread N per host;", 1, 24},
		{"spread N per loop;", 1, 24},
		{"firmware N;", 0, 1000000},
		{"near b within N;", 0, 1000000},
	} {
		text := func(n int) string {
			item := strings.Replace(c.item, "N", fmt.Sprint(n), 1)
			items := ""
			for _, other := range []string{"cores 1; ", "replicas 0; "} {
				if strings.Fields(other)[0] != strings.Fields(item)[0] {
					items += other
				}
			}
			return "service b { cores 1; replicas 0; } service a { " + items + "^" + item + " }"
		}
		for _, n := range []int{c.least, c.most} {
			checkFine(t, strings.Replace(text(n), "^", "", 1))
		}
		for _, n := range []int{c.least - 1, c.most + 1, 999999999} {
			if n >= 0 {
				checkFault(t, text(n), api.ErrRange)
			}
		}
	}
}

func TestCheckLeast(t *testing.T) {
	checkFine(t, "service a { cores 1; replicas 24; least 24; }")
	checkFine(t, "service a { least 0; cores 1; replicas 0; }")
	checkFault(t, "blast 1; ^service a { cores 1; replicas 3; least 4; }", api.ErrRange)
	checkFault(t, "^service a { least 1; cores 1; replicas 0; }", api.ErrRange)
	checkFault(t, "^service a { least 1000000; cores 1; replicas 24; }", api.ErrRange)
	checkFault(t, "service a { cores 1; replicas 24; ^least 1000001; }", api.ErrRange)
}

func TestCheckReplicasOfAllServices(t *testing.T) {
	checkFine(t, "service a { cores 1; replicas 24; } service b { cores 1; replicas 0; }")
	checkFine(t, "service a { cores 1; replicas 12; } service b { cores 1; replicas 11; } service c { cores 1; replicas 1; }")
	checkFault(t, "service a { cores 1; replicas 24; } ^service b { cores 1; replicas 1; } service c { cores 1; replicas 24; }", api.ErrLimit)
	checkFault(t, "service a { cores 1; replicas 12; } service b { cores 1; replicas 11; } blast 1; ^service c { cores 1; replicas 2; }", api.ErrLimit)
	checkFault(t, "service a { cores 1; replicas 12; } service b { cores 1; replicas 11; } ^service c { cores 1; replicas 2; } service c2 { cores 0; replicas 2; }", api.ErrLimit)
}

func TestCheckNumberOfServices(t *testing.T) {
	eight := ""
	for n := range 8 {
		eight += fmt.Sprintf("service s%d { cores 1; replicas 3; } ", n)
		checkFine(t, eight+"blast 1;")
	}
	checkFault(t, eight+"^service s8 { cores 1; replicas 0; }", api.ErrLimit)
	checkFault(t, eight+"^service s0 { }", api.ErrLimit)
	checkFault(t, eight+"^service s8 { } service s9 { } service s8 { }", api.ErrLimit)
	checkFault(t, "service s1 { } ^service s1 { } "+eight, api.ErrDuplicate)
}

func TestCheckNumberOfWindows(t *testing.T) {
	sixteen := strings.Repeat("window host 0 from 1 to 2; ", 16)
	checkFine(t, sixteen)
	checkFault(t, sixteen+"^window host 0 from 1 to 2;", api.ErrLimit)
	checkFault(t, sixteen+"approve row 0; ^window host 9 from 2 to 1; window host 0 from 1 to 2;", api.ErrLimit)
	checkFine(t, sixteen+"approve host 0; blast 1; cap feed 0 at 1;")
}

func TestCheckAreas(t *testing.T) {
	for scope, there := range map[string][]int{"host": {0, 4}, "rack": {0, 3}, "row": {0, 2, 3}, "feed": {0, 2}, "loop": {0, 1}} {
		for _, n := range there {
			checkFine(t, fmt.Sprintf("window %s %d from 0 to 1; approve %s %d;", scope, n, scope, n))
		}
		beyond := []int{there[len(there)-1] + 1, 999999999}
		if scope == "row" {
			beyond = append(beyond, 1)
		}
		for _, n := range beyond {
			checkFault(t, fmt.Sprintf("blast 1; ^window %s %d from 0 to 1;", scope, n), api.ErrNone)
			checkFault(t, fmt.Sprintf("blast 1; ^approve %s %d;", scope, n), api.ErrNone)
		}
		for _, s := range []string{"window " + scope + " 0 from 0 to 1;", "approve " + scope + " 0;"} {
			if i, at, e := check.Check(read(t, "blast 1;"+s), api.Site{}); form(i) != form(api.Intent{}) || at != 8 || e != api.ErrNone {
				t.Errorf("Check(%q) for an empty site = %+v, %d, %d", s, i, at, e)
			}
		}
	}
}

func TestCheckWindows(t *testing.T) {
	checkFine(t, "window row 2 from 0 to 1;")
	checkFine(t, "window row 2 from 999999 to 1000000;")
	checkFault(t, "^window row 2 from 0 to 0;", api.ErrRange)
	checkFault(t, "^window row 2 from 5 to 5;", api.ErrRange)
	checkFault(t, "^window row 2 from 5 to 4;", api.ErrRange)
	checkFault(t, "^window row 2 from 5 to 1000001;", api.ErrRange)
	checkFault(t, "^window row 2 from 1000000 to 1000001;", api.ErrRange)
	checkFault(t, "^window row 1 from 5 to 4;", api.ErrNone)
}

func TestCheckApprovals(t *testing.T) {
	checkFine(t, "approve host 0; approve rack 0; approve row 0; approve feed 0; approve loop 0; approve host 1;")
	checkFault(t, "approve host 0; approve rack 0; ^approve host 0;", api.ErrDuplicate)
	checkFault(t, "approve row 3; ^approve row 3; approve row 3;", api.ErrDuplicate)
	checkFault(t, "^approve row 1; approve row 1;", api.ErrNone)
}

func TestCheckBlast(t *testing.T) {
	checkFine(t, "blast 1;")
	checkFine(t, "blast 16;")
	checkFault(t, "^blast 0;", api.ErrRange)
	checkFault(t, "^blast 17;", api.ErrRange)
	checkFault(t, "blast 1; ^blast 1;", api.ErrDuplicate)
	checkFault(t, "blast 1; approve row 0; ^blast 0;", api.ErrDuplicate)
	checkFault(t, "^blast 0; blast 1;", api.ErrRange)
}

func TestCheckCaps(t *testing.T) {
	checkFine(t, "cap feed 0 at 0;")
	checkFine(t, "cap feed 0 at 900; cap feed 1 at 0; cap feed 2 at 500;")
	checkFault(t, "^cap feed 0 at 901;", api.ErrRange)
	checkFault(t, "^cap feed 1 at 1;", api.ErrRange)
	checkFault(t, "cap feed 0 at 501; ^cap feed 2 at 501;", api.ErrRange)
	checkFault(t, "^cap feed 3 at 0;", api.ErrNone)
	checkFault(t, "^cap feed 999999999 at 999999999;", api.ErrNone)
	checkFault(t, "cap feed 0 at 1; cap feed 2 at 1; ^cap feed 0 at 1;", api.ErrDuplicate)
	checkFault(t, "cap feed 0 at 1; ^cap feed 0 at 901;", api.ErrDuplicate)
	l := []api.Clause{{Kind: api.ClauseCap, At: 6}}
	if _, at, e := check.Check(l, api.Site{Feeds: []api.Feed{{Limit: -1}}}); at != 6 || e != api.ErrRange {
		t.Errorf("a cap above a Limit below 0: %d at %d", e, at)
	}
}

// P3.1: errors of services.

func TestCheckNamesTwice(t *testing.T) {
	checkFault(t, "service a { } service b { } ^service a { }", api.ErrDuplicate)
	checkFault(t, "blast 0; service a { cores 0; } approve row 1; ^service a { }", api.ErrDuplicate)
	checkFault(t, "service b { } ^service b { } service b { }", api.ErrDuplicate)
}

func TestCheckItemsTwice(t *testing.T) {
	for _, item := range []string{"cores 1;", "replicas 1;", "least 0;", "firmware 0;", "spread 1 per row;"} {
		for _, other := range []string{item, strings.NewReplacer("1", "25", "0", "1000001").Replace(item), strings.Replace(item, "row", "host", 1)} {
			checkFault(t, "service b { cores 1; replicas 0; } service a { "+item+" apart b; ^"+other+" "+item+" }", api.ErrDuplicate)
		}
	}
}

func TestCheckAparts(t *testing.T) {
	two := "service b { cores 1; replicas 0; } service c { cores 1; replicas 0; } service a { cores 1; replicas 0; "
	checkFine(t, two+"apart b, c; }")
	checkFine(t, two+"apart c; apart b; }")
	checkFine(t, two+"apart c; } service d { cores 1; replicas 0; apart c, a; }")
	checkFault(t, two+"^apart d; }", api.ErrNone)
	checkFault(t, two+"apart b; ^apart c, d; }", api.ErrNone)
	checkFault(t, two+"^apart a; }", api.ErrArg)
	checkFault(t, two+"^apart b, c, a; }", api.ErrArg)
	checkFault(t, two+"^apart b, b; }", api.ErrDuplicate)
	checkFault(t, two+"apart c; apart b; ^apart c; }", api.ErrDuplicate)
	checkFault(t, two+"^apart b, b, d; }", api.ErrDuplicate)
	checkFault(t, two+"^apart b, d, b; }", api.ErrNone)
	checkFault(t, two+"^apart a, d; }", api.ErrArg)
	checkFault(t, two+"^apart d, a; }", api.ErrNone)
	checkFault(t, two+"^apart a, a; }", api.ErrArg)
}

func TestCheckNears(t *testing.T) {
	two := "service b { cores 1; replicas 0; } service c { cores 1; replicas 0; } service a { cores 1; replicas 0; "
	checkFine(t, two+"near b within 1; near c within 1; apart b, c; }")
	checkFine(t, two+"near c within 1; } service d { cores 1; replicas 0; near c within 1; near a within 2; }")
	checkFault(t, two+"^near d within 1; }", api.ErrNone)
	checkFault(t, two+"^near d within 1000001; }", api.ErrNone)
	checkFault(t, two+"^near a within 1; }", api.ErrArg)
	checkFault(t, two+"^near a within 1000001; }", api.ErrArg)
	checkFault(t, two+"near b within 1; ^near b within 2; }", api.ErrDuplicate)
	checkFault(t, two+"near b within 1; near c within 1; ^near b within 1000001; }", api.ErrDuplicate)
	checkFault(t, two+"near b within 1; ^near c within 1000001; }", api.ErrRange)
}

func TestCheckBehindTheItems(t *testing.T) {
	for _, items := range []string{"", "cores 1;", "replicas 1;", "least 1; firmware 1;", "cores 1; least 9;", "least 9; spread 1 per row;"} {
		checkFault(t, "blast 1; ^service a { "+items+" } service b { cores 1; replicas 0; }", api.ErrNone)
	}
	checkFault(t, "service a { cores 1; replicas 24; } ^service b { replicas 24; }", api.ErrNone)
	checkFault(t, "service a { cores 1; replicas 24; } ^service b { cores 1; replicas 1; least 2; }", api.ErrRange)
	checkFault(t, "service a { cores 1; replicas 24; } ^service b { cores 1; replicas 1; least 1; }", api.ErrLimit)
}

// P3.1: two errors in a tree.

func TestCheckFirstErrorOfTwo(t *testing.T) {
	faults := []struct {
		clause string // with ^ where the error stands
		e      api.Errno
	}{
		{"^blast 0;", api.ErrRange},
		{"^approve row 1;", api.ErrNone},
		{"^cap feed 2 at 501;", api.ErrRange},
		{"^window host 5 from 0 to 1;", api.ErrNone},
		{"service x { cores 1; replicas 1; ^apart x; }", api.ErrArg},
		{"service y { ^cores 1001; }", api.ErrRange},
		{"^service z { cores 1; }", api.ErrNone},
		{"service q { least 1; ^least 1; }", api.ErrDuplicate},
	}
	for i, a := range faults {
		for j, b := range faults {
			if i != j {
				checkFault(t, "approve row 0; "+a.clause+" "+strings.Replace(b.clause, "^", "", 1), a.e)
			}
		}
	}
	checkFault(t, "service a { ^cores 0; replicas 25; }", api.ErrRange)
	checkFault(t, "service a { ^near a within 1; cores 0; }", api.ErrArg)
	checkFault(t, "service a { ^cores 0; near a within 1; }", api.ErrRange)
	checkFault(t, "service a { cores 1; ^least 1000001; cores 1; }", api.ErrRange)
	checkFault(t, "service a { cores 1; ^cores 1; least 1000001; }", api.ErrDuplicate)
}

func TestCheckNamesComeFirst(t *testing.T) {
	for _, front := range []string{"blast 0;", "approve row 1;", "cap feed 3 at 0;", "window host 0 from 1 to 0;", "service b { cores 0; }", "service b { }"} {
		checkFault(t, front+" service a { } ^service a { }", api.ErrDuplicate)
		checkFault(t, "service a { } ^service a { } "+front, api.ErrDuplicate)
	}
}

func TestCheckReturnsAnyOffset(t *testing.T) {
	for _, at := range []int{-1, math.MinInt, math.MaxInt, 4097, 0} {
		item := api.Clause{Kind: api.ClauseCores, A: 0, At: at}
		for _, l := range [][]api.Clause{
			{{Kind: api.ClauseBlast, A: 17, At: at}},
			{{Kind: api.ClauseService, Names: []string{"a"}, At: 7, Items: []api.Clause{item}}},
			{{Kind: api.ClauseService, Names: []string{"a"}, At: at}},
		} {
			if _, gotAt, e := check.Check(l, place()); gotAt != at || e == api.OK {
				t.Errorf("Check(%+v): %d at %d", l, e, gotAt)
			}
		}
	}
}

// DOC.md, rule 3: memory.

func TestCheckKeepsItsArguments(t *testing.T) {
	s := "approve row 2; service a { cores 1; replicas 1; near d within 4; near b within 3; apart d, c; } service d { cores 1; replicas 0; } " +
		"service b { cores 1; replicas 0; } service c { cores 1; replicas 0; apart b, a; } window row 0 from 1 to 2; cap feed 0 at 3;"
	l, site := read(t, s), place()
	before := form(l) + form(site)
	i, _, e := check.Check(l, site)
	want := form(i)
	if e != api.OK || form(l)+form(site) != before {
		t.Fatalf("Check changed its arguments: %s, before %s", form(l)+form(site), before)
	}
	l[1].Names[0], l[1].Items[4].Names[0], site.Racks[0].Row = "x", "y", 1
	if form(i) != want {
		t.Errorf("a change of the tree changed the intent: %s, before %s", form(i), want)
	}
	other, _, _ := check.Check(read(t, s), place())
	i.Names[0], i.Wish.Services[0].Apart[0], i.Wish.Services[0].Near[0].Latency, i.Policy.Windows[0].To = "z", 9, 9, 9
	i.Wish.Services[0].Apart = append(i.Wish.Services[0].Apart, 7)
	i.Policy.Caps[0].Watts, i.Policy.Approvals[0].Index = 8, 8
	if form(other) != want {
		t.Errorf("a change of one result changed another one: %s, before %s", form(other), want)
	}
	if form(i.Wish.Services[3].Apart) != "[0 2]" {
		t.Errorf("a change of one list changed another one: %v", i.Wish.Services[3].Apart)
	}
}
