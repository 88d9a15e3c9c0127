package check_test

import (
	"math"
	"slices"
	"strings"
	"testing"

	"majordomo/api"
	"majordomo/check"
	"majordomo/syntax"
)

// small is a service that has what every service must have.
func small() api.Service { return api.Service{Cores: 1} }

// wish returns an intent with services that have the names a, b, c and so on.
func wish(services ...api.Service) api.Intent {
	i := api.Intent{Wish: api.Wish{Services: services}}
	for n := range services {
		i.Names = append(i.Names, string(rune('a'+n)))
	}
	return i
}

// checkClauses checks the tree for an intent, by its text.
func checkClauses(t *testing.T, i api.Intent, want string) {
	t.Helper()
	l, e := check.Clauses(i)
	s, printed := syntax.Print(l)
	if e != api.OK || printed != api.OK || s != want {
		t.Errorf("Clauses(%+v) = %+v (%q), %d, want %q", i, l, s, e, want)
	}
	for _, c := range l {
		if c.At != 0 || slices.ContainsFunc(c.Items, func(i api.Clause) bool { return i.At != 0 }) {
			t.Errorf("Clauses(%+v): not all At are 0 in %+v", i, c)
		}
	}
}

// checkNoClauses checks that there is no tree for an intent, and that it is not valid.
func checkNoClauses(t *testing.T, i api.Intent) {
	t.Helper()
	if l, e := check.Clauses(i); len(l) != 0 || e != api.ErrArg {
		t.Errorf("Clauses(%+v) = %+v, %d, want ErrArg", i, l, e)
	}
	if check.Valid(i, place()) {
		t.Errorf("Valid(%+v)", i)
	}
}

// P3.2: trees for intents.

func TestClausesOfNothing(t *testing.T) {
	checkClauses(t, api.Intent{}, "")
	checkClauses(t, api.Intent{Names: []string{}, Wish: api.Wish{Services: []api.Service{}}, Policy: api.Policy{Windows: []api.Window{}, Approvals: []api.Area{}, Caps: []api.Cap{}}}, "")
}

func TestClausesOfServices(t *testing.T) {
	for items, s := range map[string]api.Service{
		"cores 0 ; replicas 0 ;":                                        {},
		"cores 1000000 ; replicas 999999999 ;":                          {Cores: 1000000, Replicas: 999999999},
		"cores 2 ; replicas 3 ; least 1 ;":                              {Cores: 2, Replicas: 3, Least: 1},
		"cores 2 ; replicas 3 ; least 9 ;":                              {Cores: 2, Replicas: 3, Least: 9},
		"cores 2 ; replicas 3 ; spread 4 per host ;":                    {Cores: 2, Replicas: 3, Domain: api.DomainHost, Spread: 4},
		"cores 2 ; replicas 3 ; spread 0 per loop ;":                    {Cores: 2, Replicas: 3, Domain: api.DomainLoop},
		"cores 4 ; replicas 5 ;":                                        {Cores: 4, Replicas: 5, Spread: 6},
		"cores 4 ; replicas 6 ;":                                        {Cores: 4, Replicas: 6, Spread: -6, Apart: []int{}, Near: []api.Near{}},
		"cores 0 ; replicas 1 ; apart b ;":                              {Replicas: 1, Apart: []int{1}},
		"cores 0 ; replicas 1 ; apart c , a , c ;":                      {Replicas: 1, Apart: []int{2, 0, 2}},
		"cores 0 ; replicas 1 ; near c within 7 ;":                      {Replicas: 1, Near: []api.Near{{Service: 2, Latency: 7}}},
		"cores 0 ; replicas 1 ; near c within 7 ; near a within 0 ;":    {Replicas: 1, Near: []api.Near{{Service: 2, Latency: 7}, {Service: 0}}},
		"cores 0 ; replicas 2 ; near b within 7 ; near b within 8 ;":    {Replicas: 2, Near: []api.Near{{Service: 1, Latency: 7}, {Service: 1, Latency: 8}}},
		"cores 0 ; replicas 1 ; firmware 5 ;":                           {Replicas: 1, Firmware: 5},
		"cores 0 ; replicas 0 ; least 999999999 ; firmware 999999999 ;": {Least: 999999999, Firmware: 999999999},
		"cores 9 ; replicas 8 ; least 7 ; spread 6 per row ; apart b , c ; near b within 5 ; near c within 4 ; firmware 3 ;": {
			Cores: 9, Replicas: 8, Least: 7, Domain: api.DomainRow, Spread: 6, Apart: []int{1, 2}, Near: []api.Near{{Service: 1, Latency: 5}, {Service: 2, Latency: 4}}, Firmware: 3},
	} {
		checkClauses(t, wish(s, small(), small()), "service a { "+items+" } service b { cores 1 ; replicas 0 ; } service c { cores 1 ; replicas 0 ; }")
		checkClauses(t, wish(small(), small(), s), "service a { cores 1 ; replicas 0 ; } service b { cores 1 ; replicas 0 ; } service c { "+items+" }")
	}
	checkClauses(t, api.Intent{Names: []string{"x", "x"}, Wish: api.Wish{Services: []api.Service{small(), {Apart: []int{1}}}}},
		"service x { cores 1 ; replicas 0 ; } service x { cores 0 ; replicas 0 ; apart x ; }")
}

func TestClausesOfPolicies(t *testing.T) {
	i := wish(small())
	i.Policy = api.Policy{
		Windows:   []api.Window{{Domain: api.DomainLoop, Index: 9, From: 8, To: 7}, {Domain: api.DomainHost}},
		Approvals: []api.Area{{Domain: api.DomainFeed, Index: 6}, {Domain: api.DomainRack, Index: 5}, {Domain: api.DomainRack, Index: 5}},
		Blast:     99,
		Caps:      []api.Cap{{Feed: 4, Watts: 3}, {Feed: 4, Watts: 2}, {}},
	}
	checkClauses(t, i, "service a { cores 1 ; replicas 0 ; } window loop 9 from 8 to 7 ; window host 0 from 0 to 0 ; approve feed 6 ; approve rack 5 ; approve rack 5 ; blast 99 ; cap feed 4 at 3 ; cap feed 4 at 2 ; cap feed 0 at 0 ;")
	i.Policy.Blast, i.Policy.Windows = 0, nil
	checkClauses(t, i, "service a { cores 1 ; replicas 0 ; } approve feed 6 ; approve rack 5 ; approve rack 5 ; cap feed 4 at 3 ; cap feed 4 at 2 ; cap feed 0 at 0 ;")
}

func TestClausesOfMoreThanATextHolds(t *testing.T) {
	i := api.Intent{Policy: api.Policy{Windows: slices.Repeat([]api.Window{{Domain: api.DomainRow, To: 1}}, api.MaxText)}}
	l, e := check.Clauses(i)
	if _, printed := syntax.Print(l); len(l) != api.MaxText || e != api.OK || printed != api.ErrLimit || check.Valid(i, place()) {
		t.Errorf("Clauses of many windows: %d clauses, %d, printed %d", len(l), e, printed)
	}
}

// P3.2: intents without a tree.

func TestClausesWithoutAsManyNames(t *testing.T) {
	for _, names := range [][]string{nil, {}, {"a"}, {"a", "b", "c"}} {
		checkNoClauses(t, api.Intent{Names: names, Wish: api.Wish{Services: []api.Service{small(), small()}}})
	}
	checkNoClauses(t, api.Intent{Names: []string{"a"}})
	i := wish(small())
	i.Names, i.Wish.Services[0].Apart = nil, []int{0}
	checkNoClauses(t, i)
}

func TestClausesWithPlacesOfNoService(t *testing.T) {
	for _, place := range []int{-1, 3, 4, math.MinInt, math.MaxInt, 1 << 32} {
		for _, s := range []api.Service{
			{Cores: 1, Apart: []int{place}},
			{Cores: 1, Apart: []int{1, place}},
			{Cores: 1, Apart: []int{place, 1}},
			{Cores: 1, Near: []api.Near{{Service: place}}},
			{Cores: 1, Near: []api.Near{{Service: 1}, {Service: place}}},
			{Cores: 1, Near: []api.Near{{Service: place}, {Service: 1}}},
		} {
			checkNoClauses(t, wish(s, small(), small()))
			checkNoClauses(t, wish(small(), small(), s))
		}
	}
}

func TestClausesThatAreNotFormed(t *testing.T) {
	for _, name := range []string{"", "A", "1", "service", "within", "host", "abcdefghijklm", "a b", "-", "a;", "\u00e9"} {
		i := wish(small(), small())
		i.Names[1] = name
		checkNoClauses(t, i)
	}
	for _, n := range []int{-1, math.MinInt, 1000000000, math.MaxInt} {
		for _, s := range []api.Service{
			{Cores: n}, {Replicas: n}, {Least: n}, {Firmware: n}, {Domain: api.DomainHost, Spread: n}, {Near: []api.Near{{Service: 1, Latency: n}}},
		} {
			checkNoClauses(t, wish(s, small()))
		}
		for _, p := range []api.Policy{
			{Blast: n},
			{Windows: []api.Window{{Domain: api.DomainHost, Index: n, To: 1}}},
			{Windows: []api.Window{{Domain: api.DomainHost, From: n, To: 1}}},
			{Windows: []api.Window{{Domain: api.DomainHost, To: n}}},
			{Approvals: []api.Area{{Domain: api.DomainHost, Index: n}}},
			{Caps: []api.Cap{{Feed: n}}},
			{Caps: []api.Cap{{Watts: n}}},
		} {
			checkNoClauses(t, api.Intent{Policy: p})
		}
	}
	for _, d := range []api.Domain{api.DomainNone, api.DomainLoop + 1, 255} {
		checkNoClauses(t, api.Intent{Policy: api.Policy{Windows: []api.Window{{Domain: d, To: 1}}}})
		checkNoClauses(t, api.Intent{Policy: api.Policy{Approvals: []api.Area{{Domain: d}}}})
		if d != api.DomainNone {
			checkNoClauses(t, wish(api.Service{Cores: 1, Domain: d, Spread: 1}))
		}
	}
}

func TestClausesKeepTheIntent(t *testing.T) {
	i := wish(api.Service{Cores: 1, Apart: []int{1}, Near: []api.Near{{Service: 1}}}, small())
	before := form(i)
	l, _ := check.Clauses(i)
	want := form(l)
	again, _ := check.Clauses(i)
	i.Names[1], i.Wish.Services[0].Apart[0] = "z", 0
	again[0].Names[0], again[0].Items[2].Names[0] = "y", "x"
	if form(l) != want {
		t.Errorf("the tree changed with the intent, or with another result: %s, before %s", form(l), want)
	}
	i.Names[1], i.Wish.Services[0].Apart[0] = "b", 1
	l[0].Names[0], l[0].Items[2].Names[0], l[1].Names[0] = "w", "v", "u"
	if form(i) != before {
		t.Errorf("the intent changed with the tree: %s, before %s", form(i), before)
	}
}

// P3.3: valid intents.

// full is a valid intent with something of everything.
func full() api.Intent {
	i := wish(
		api.Service{Cores: 1000, Replicas: 20, Least: 20, Domain: api.DomainLoop, Spread: 24, Apart: []int{1, 2}, Near: []api.Near{{Service: 1, Latency: 1000000}, {Service: 2}}, Firmware: 1000000},
		api.Service{Cores: 1, Replicas: 4, Apart: []int{0, 2}},
		small())
	i.Policy = api.Policy{
		Windows:   slices.Repeat([]api.Window{{Domain: api.DomainRow, Index: 3, From: 999999, To: 1000000}}, 16),
		Approvals: []api.Area{{Domain: api.DomainRow, Index: 3}, {Domain: api.DomainHost, Index: 4}},
		Blast:     16,
		Caps:      []api.Cap{{Feed: 2, Watts: 500}, {Feed: 0, Watts: 0}},
	}
	return i
}

func TestValid(t *testing.T) {
	for _, i := range []api.Intent{
		{},
		{Names: []string{}, Wish: api.Wish{Services: []api.Service{}}, Policy: api.Policy{Windows: []api.Window{}, Approvals: []api.Area{}, Caps: []api.Cap{}}},
		wish(small()),
		wish(api.Service{Cores: 1, Apart: []int{}, Near: []api.Near{}}),
		full(),
	} {
		before := form(i)
		if !check.Valid(i, place()) {
			t.Errorf("not Valid(%+v)", i)
		}
		if form(i) != before {
			t.Errorf("Valid changed its argument: %s, before %s", form(i), before)
		}
	}
	if !check.Valid(api.Intent{}, api.Site{}) || !check.Valid(wish(small()), api.Site{}) || check.Valid(full(), api.Site{}) {
		t.Error("Valid for an empty site is wrong")
	}
}

// TestNotValidWithATree changes a valid intent so that there still is a tree for it, but one that has an error, or another meaning.
func TestNotValidWithATree(t *testing.T) {
	for name, change := range map[string]func(i *api.Intent){
		"apart that descends":      func(i *api.Intent) { i.Wish.Services[0].Apart = []int{2, 1} },
		"apart twice":              func(i *api.Intent) { i.Wish.Services[0].Apart = []int{1, 1} },
		"apart itself":             func(i *api.Intent) { i.Wish.Services[1].Apart = []int{0, 1} },
		"near that descends":       func(i *api.Intent) { slices.Reverse(i.Wish.Services[0].Near) },
		"near twice":               func(i *api.Intent) { i.Wish.Services[0].Near[1].Service = 1 },
		"near itself":              func(i *api.Intent) { i.Wish.Services[0].Near[0].Service = 0 },
		"near too far":             func(i *api.Intent) { i.Wish.Services[0].Near[0].Latency = 1000001 },
		"no domain, but a spread":  func(i *api.Intent) { i.Wish.Services[1].Spread = 1 },
		"no domain, a spread of -": func(i *api.Intent) { i.Wish.Services[1].Spread = -1 },
		"a domain, but no spread":  func(i *api.Intent) { i.Wish.Services[1].Domain = api.DomainHost },
		"too large a spread":       func(i *api.Intent) { i.Wish.Services[0].Spread = 25 },
		"no cores":                 func(i *api.Intent) { i.Wish.Services[2].Cores = 0 },
		"too many cores":           func(i *api.Intent) { i.Wish.Services[0].Cores = 1001 },
		"too many replicas":        func(i *api.Intent) { i.Wish.Services[2].Replicas = 1 },
		"too large a least":        func(i *api.Intent) { i.Wish.Services[1].Least = 5 },
		"too large a firmware":     func(i *api.Intent) { i.Wish.Services[0].Firmware = 1000001 },
		"a name twice":             func(i *api.Intent) { i.Names[2] = "a" },
		"too many services": func(i *api.Intent) {
			*i = wish(slices.Repeat([]api.Service{small()}, 9)...)
		},
		"too many windows":      func(i *api.Intent) { i.Policy.Windows = append(i.Policy.Windows, i.Policy.Windows[0]) },
		"a window of nothing":   func(i *api.Intent) { i.Policy.Windows[15].Index = 1 },
		"an empty window":       func(i *api.Intent) { i.Policy.Windows[3].From = 1000000 },
		"too late a window":     func(i *api.Intent) { i.Policy.Windows[3].To = 1000001 },
		"an approval twice":     func(i *api.Intent) { i.Policy.Approvals[1] = i.Policy.Approvals[0] },
		"an approval of no row": func(i *api.Intent) { i.Policy.Approvals[0].Index = 1 },
		"too large a blast":     func(i *api.Intent) { i.Policy.Blast = 17 },
		"a cap twice":           func(i *api.Intent) { i.Policy.Caps[1].Feed = 2 },
		"a cap of no feed":      func(i *api.Intent) { i.Policy.Caps[1].Feed = 3 },
		"too large a cap":       func(i *api.Intent) { i.Policy.Caps[0].Watts = 501 },
	} {
		i := full()
		change(&i)
		if l, e := check.Clauses(i); len(l) == 0 || e != api.OK {
			t.Errorf("%s: Clauses = %d", name, e)
		}
		if check.Valid(i, place()) {
			t.Errorf("%s: valid", name)
		}
	}
}

func TestValidForAnotherSite(t *testing.T) {
	for name, change := range map[string]func(s *api.Site){
		"no row 3":      func(s *api.Site) { s.Racks[3].Row = 1 },
		"fewer hosts":   func(s *api.Site) { s.Hosts = s.Hosts[:4] },
		"a lower limit": func(s *api.Site) { s.Feeds[2].Limit = 499 },
		"fewer feeds":   func(s *api.Site) { s.Feeds = s.Feeds[:2] },
	} {
		s := place()
		change(&s)
		if check.Valid(full(), s) {
			t.Errorf("%s: valid", name)
		}
	}
}

// P3.4: limited sites.

func TestLimited(t *testing.T) {
	for _, c := range []struct {
		caps []api.Cap
		want string // the limits of the feeds
	}{
		{nil, "900 0 500"},
		{[]api.Cap{}, "900 0 500"},
		{[]api.Cap{{Feed: 0, Watts: 899}}, "899 0 500"},
		{[]api.Cap{{Feed: 0, Watts: 900}, {Feed: 2, Watts: 0}}, "900 0 0"},
		{[]api.Cap{{Feed: 0, Watts: 901}, {Feed: 1, Watts: 1}}, "900 0 500"},
		{[]api.Cap{{Feed: 2, Watts: 300}, {Feed: 2, Watts: 400}}, "900 0 300"},
		{[]api.Cap{{Feed: 2, Watts: 400}, {Feed: 2, Watts: 300}, {Feed: 2, Watts: 501}}, "900 0 300"},
		{[]api.Cap{{Feed: 1, Watts: -5}, {Feed: 0, Watts: math.MinInt}}, "-9223372036854775808 -5 500"},
		{[]api.Cap{{Feed: 3}, {Feed: -1}, {Feed: math.MaxInt}, {Feed: math.MinInt}, {Feed: 1 << 32}}, "900 0 500"},
		{[]api.Cap{{Feed: 3}, {Feed: 2, Watts: 1}, {Feed: -1}}, "900 0 1"},
	} {
		got := check.Limited(place(), api.Policy{Caps: c.caps, Blast: 3})
		if limits := strings.Trim(strings.ReplaceAll(form(got.Feeds), "Limit:", ""), "[{}]"); strings.ReplaceAll(limits, "} {", " ") != c.want {
			t.Errorf("Limited with %+v: %s, want %s", c.caps, limits, c.want)
		}
		got.Feeds = place().Feeds
		if form(got) != form(place()) {
			t.Errorf("Limited with %+v changed more than feeds: %+v", c.caps, got)
		}
	}
	if got := check.Limited(api.Site{}, api.Policy{Caps: []api.Cap{{}}}); form(got) != form(api.Site{}) {
		t.Errorf("Limited of an empty site: %+v", got)
	}
}

func TestLimitedSharesNoMemory(t *testing.T) {
	s, want := place(), form(place())
	p := api.Policy{Caps: []api.Cap{{Feed: 0, Watts: 1}}}
	got := check.Limited(s, p)
	if form(s) != want || form(p.Caps) != "[{Feed:0 Watts:1}]" {
		t.Errorf("Limited changed its arguments: %+v, %+v", s, p)
	}
	got.Feeds[1].Limit, got.Breakers[0].Limit, got.Loops[0].Carry, got.Racks[0].Row, got.Links[0].A, got.Hosts[0].Cores = 77, 77, 77, 77, 77, 77
	if form(s) != want {
		t.Errorf("a change of the result changed the site: %+v", s)
	}
	same := check.Limited(s, api.Policy{})
	same.Feeds[0].Limit = 77
	if form(s) != want {
		t.Errorf("a change of the result without caps changed the site: %+v", s)
	}
}
