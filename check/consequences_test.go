package check_test

import (
	"cmp"
	"fmt"
	"math/rand"
	"slices"
	"strings"
	"testing"

	"majordomo/api"
	"majordomo/check"
	"majordomo/syntax"
)

// found is an error of a tree: its rank is the step, the place of the clause, that of the item (or behind all of them), that of the name, and that of the rule.
type found struct {
	rank [5]int
	at   int
	e    api.Errno
}

// second gathers all errors of a tree, whichever comes first.
type second struct {
	tree  []api.Clause
	site  api.Site
	areas string
	found []found
}

func (s *second) note(at int, e api.Errno, broken bool, rank ...int) {
	if broken {
		f := found{at: at, e: e}
		copy(f.rank[:], rank)
		s.found = append(s.found, f)
	}
}

// services returns the clauses of services of a tree.
func services(l []api.Clause) []api.Clause {
	var of []api.Clause
	for _, c := range l {
		if c.Kind == api.ClauseService {
			of = append(of, c)
		}
	}
	return of
}

// placeOf returns the place of the service with a name, -1 if there is none.
func (s *second) placeOf(name string) int {
	return slices.IndexFunc(services(s.tree), func(c api.Clause) bool { return c.Names[0] == name })
}

// before reports whether something holds for one of the clauses in front of a place.
func before(l []api.Clause, place int, holds func(c api.Clause) bool) bool {
	return slices.ContainsFunc(l[:place], holds)
}

// item returns the first item of a kind, and whether there is one.
func item(c api.Clause, k api.ClauseKind) (api.Clause, bool) {
	for _, i := range c.Items {
		if i.Kind == k {
			return i, true
		}
	}
	return api.Clause{}, false
}

// areas are all areas of a site, written.
func areas(s api.Site) string {
	var l strings.Builder
	for d, n := range map[string]int{"host": len(s.Hosts), "rack": len(s.Racks), "feed": len(s.Feeds), "loop": len(s.Loops)} {
		for i := range n {
			fmt.Fprintf(&l, " %s %d;", d, i)
		}
	}
	for _, r := range s.Racks {
		fmt.Fprintf(&l, " row %d;", r.Row)
	}
	return l.String()
}

func (s *second) noArea(c api.Clause) bool {
	scope := []string{"", "host", "rack", "row", "feed", "loop"}[c.Domain]
	return !strings.Contains(s.areas, fmt.Sprintf(" %s %d;", scope, c.Index))
}

func (s *second) gather() {
	seen, windows := 0, 0
	for n, c := range s.tree {
		same := func(o api.Clause) bool { return o.Kind == c.Kind }
		switch c.Kind {
		case api.ClauseService:
			seen++
			s.note(c.At, api.ErrLimit, seen > 8, 1, n, 0, 0, 0)
			s.note(c.At, api.ErrDuplicate, before(s.tree, n, func(o api.Clause) bool { return same(o) && o.Names[0] == c.Names[0] }), 1, n, 0, 0, 1)
			s.service(n, c)
		case api.ClauseWindow:
			windows++
			s.note(c.At, api.ErrLimit, windows > 16, 2, n, 0, 0, 0)
			s.note(c.At, api.ErrNone, s.noArea(c), 2, n, 0, 0, 1)
			s.note(c.At, api.ErrRange, !(c.A < c.B && c.B <= 1000000), 2, n, 0, 0, 2)
		case api.ClauseApprove:
			s.note(c.At, api.ErrNone, s.noArea(c), 2, n, 0, 0, 0)
			s.note(c.At, api.ErrDuplicate, before(s.tree, n, func(o api.Clause) bool { return same(o) && o.Domain == c.Domain && o.Index == c.Index }), 2, n, 0, 0, 1)
		case api.ClauseBlast:
			s.note(c.At, api.ErrDuplicate, before(s.tree, n, same), 2, n, 0, 0, 0)
			s.note(c.At, api.ErrRange, !(1 <= c.A && c.A <= 16), 2, n, 0, 0, 1)
		case api.ClauseCap:
			none := c.Index >= len(s.site.Feeds)
			s.note(c.At, api.ErrNone, none, 2, n, 0, 0, 0)
			s.note(c.At, api.ErrDuplicate, before(s.tree, n, func(o api.Clause) bool { return same(o) && o.Index == c.Index }), 2, n, 0, 0, 1)
			s.note(c.At, api.ErrRange, !none && c.A > s.site.Feeds[min(c.Index, len(s.site.Feeds)-1)].Limit, 2, n, 0, 0, 2)
		}
	}
}

func (s *second) service(n int, c api.Clause) {
	for m, i := range c.Items {
		same := func(o api.Clause) bool { return o.Kind == i.Kind }
		switch i.Kind {
		case api.ClauseApart:
			for k, name := range i.Names {
				again := slices.Contains(i.Names[:k], name) || before(c.Items, m, func(o api.Clause) bool { return same(o) && slices.Contains(o.Names, name) })
				s.other(i.At, name, c.Names[0], again, n, m, k)
			}
		case api.ClauseNear:
			again := before(c.Items, m, func(o api.Clause) bool { return same(o) && o.Names[0] == i.Names[0] })
			s.other(i.At, i.Names[0], c.Names[0], again, n, m, 0)
			s.note(i.At, api.ErrRange, i.A > 1000000, 2, n, m, 0, 3)
		default:
			s.note(i.At, api.ErrDuplicate, before(c.Items, m, same), 2, n, m, 0, 0)
			ends := map[api.ClauseKind][2]int{api.ClauseCores: {1, 1000}, api.ClauseReplicas: {0, 24}, api.ClauseLeast: {0, 1000000}, api.ClauseSpread: {1, 24}, api.ClauseFirmware: {0, 1000000}}[i.Kind]
			s.note(i.At, api.ErrRange, i.A < ends[0] || i.A > ends[1], 2, n, m, 0, 1)
		}
	}
	_, cores := item(c, api.ClauseCores)
	replicas, there := item(c, api.ClauseReplicas)
	least, _ := item(c, api.ClauseLeast)
	sum := 0
	for _, o := range services(s.tree[:n+1]) {
		r, _ := item(o, api.ClauseReplicas)
		sum += r.A
	}
	behind := len(c.Items)
	s.note(c.At, api.ErrNone, !cores || !there, 2, n, behind, 0, 0)
	s.note(c.At, api.ErrRange, least.A > replicas.A, 2, n, behind, 0, 1)
	s.note(c.At, api.ErrLimit, sum > 24, 2, n, behind, 0, 2)
}

func (s *second) other(at int, name, own string, again bool, n, m, k int) {
	s.note(at, api.ErrNone, s.placeOf(name) < 0, 2, n, m, k, 0)
	s.note(at, api.ErrArg, name == own, 2, n, m, k, 1)
	s.note(at, api.ErrDuplicate, again, 2, n, m, k, 2)
}

// meaning returns what a tree without errors means.
func (s *second) meaning() api.Intent {
	var i api.Intent
	for _, c := range services(s.tree) {
		number := func(k api.ClauseKind) int {
			x, _ := item(c, k)
			return x.A
		}
		spread, _ := item(c, api.ClauseSpread)
		m := api.Service{Cores: number(api.ClauseCores), Replicas: number(api.ClauseReplicas), Least: number(api.ClauseLeast), Firmware: number(api.ClauseFirmware), Spread: spread.A, Domain: spread.Domain}
		for place, o := range services(s.tree) {
			for _, x := range c.Items {
				if x.Kind == api.ClauseApart && slices.Contains(x.Names, o.Names[0]) {
					m.Apart = append(m.Apart, place)
				}
				if x.Kind == api.ClauseNear && x.Names[0] == o.Names[0] {
					m.Near = append(m.Near, api.Near{Service: place, Latency: x.A})
				}
			}
		}
		i.Names = append(i.Names, c.Names[0])
		i.Wish.Services = append(i.Wish.Services, m)
	}
	for _, c := range s.tree {
		switch p := &i.Policy; c.Kind {
		case api.ClauseWindow:
			p.Windows = append(p.Windows, api.Window{Domain: c.Domain, Index: c.Index, From: c.A, To: c.B})
		case api.ClauseApprove:
			p.Approvals = append(p.Approvals, api.Area{Domain: c.Domain, Index: c.Index})
		case api.ClauseBlast:
			p.Blast = c.A
		case api.ClauseCap:
			p.Caps = append(p.Caps, api.Cap{Feed: c.Index, Watts: c.A})
		}
	}
	return i
}

// checkSecond compares Check with the second reading, and returns whether the tree has a meaning.
func checkSecond(t *testing.T, l []api.Clause, site api.Site) (found, bool) {
	t.Helper()
	s := &second{tree: l, site: site, areas: areas(site)}
	s.gather()
	i, at, e := check.Check(l, site)
	if len(s.found) > 0 {
		first := slices.MinFunc(s.found, func(a, b found) int { return slices.Compare(a.rank[:], b.rank[:]) })
		if form(i) != form(api.Intent{}) || at != first.at || e != first.e {
			t.Fatalf("Check(%s) = %+v, %d, %d, want none, %d, %d", form(l), i, at, e, first.at, first.e)
		}
		return first, false
	}
	if want := s.meaning(); form(i) != form(want) || at != 0 || e != api.OK {
		t.Fatalf("Check(%s) = %+v, %d, %d, want %+v", form(l), i, at, e, want)
	}
	return found{}, true
}

// maker makes random well-formed trees, with a fault now and then.
type maker struct {
	*rand.Rand
	faults int // one in so many choices is a bad one
	names  []string
	left   int // replicas that are left to the services
	at     int
}

// pick returns one of the good numbers, seldom one of the bad ones.
func (m *maker) pick(good []int, bad ...int) int {
	if m.Intn(m.faults) == 0 {
		return bad[m.Intn(len(bad))]
	}
	return good[m.Intn(len(good))]
}

// next returns the next offset; no two clauses or items have the same one.
func (m *maker) next() int {
	m.at++
	return m.at
}

func (m *maker) area() (api.Domain, int) {
	d := api.Domain(1 + m.Intn(5))
	good := map[api.Domain][]int{api.DomainHost: {0, 1, 2, 3, 4}, api.DomainRack: {0, 1, 2, 3}, api.DomainRow: {0, 2, 3}, api.DomainFeed: {0, 1, 2}, api.DomainLoop: {0, 1}}[d]
	return d, m.pick(good, len(good), 5, 1, 999999999)
}

func (m *maker) policy() []api.Clause {
	var l []api.Clause
	for range m.pick([]int{0, 1, 2, 16}, 17, 18) {
		c := api.Clause{Kind: api.ClauseWindow, A: m.pick([]int{0, 5, 999999}, 1000000), B: m.pick([]int{1000000}, 1000001, 0, 5)}
		c.Domain, c.Index = m.area()
		l = append(l, c)
	}
	taken := map[api.Area]bool{}
	for range m.Intn(4) {
		c := api.Clause{Kind: api.ClauseApprove}
		c.Domain, c.Index = m.area()
		if a := (api.Area{Domain: c.Domain, Index: c.Index}); !taken[a] || m.Intn(m.faults) == 0 {
			taken[a] = true
			l = append(l, c)
		}
	}
	for range m.pick([]int{0, 1}, 2) {
		l = append(l, api.Clause{Kind: api.ClauseBlast, A: m.pick([]int{1, 16}, 0, 17)})
	}
	for feed, limit := range []int{900, 0, 500} {
		if m.Intn(3) > 0 {
			l = append(l, api.Clause{Kind: api.ClauseCap, Index: m.pick([]int{feed}, 0, 2, 3, 9), A: m.pick([]int{0, limit}, limit+1)})
		}
	}
	return l
}

func (m *maker) items(own string) []api.Clause {
	replicas := m.pick([]int{0, m.Intn(m.left + 1)}, m.left+1, 24, 25)
	m.left = max(0, m.left-replicas)
	l := []api.Clause{{Kind: api.ClauseCores, A: m.pick([]int{1, 1000}, 0, 1001)}, {Kind: api.ClauseReplicas, A: replicas}}
	if m.Intn(2) == 0 {
		l = append(l, api.Clause{Kind: api.ClauseLeast, A: m.pick([]int{0, replicas}, replicas+1, 1000000, 1000001)})
	}
	if m.Intn(2) == 0 {
		l = append(l, api.Clause{Kind: api.ClauseFirmware, A: m.pick([]int{0, 1000000}, 1000001)})
	}
	if m.Intn(2) == 0 {
		l = append(l, api.Clause{Kind: api.ClauseSpread, A: m.pick([]int{1, 24}, 0, 25), Domain: api.Domain(1 + m.Intn(5))})
	}
	apart := api.Clause{Kind: api.ClauseApart}
	for _, n := range m.Perm(len(m.names)) {
		name := m.names[n]
		bad := m.Intn(m.faults) == 0
		if bad {
			name = []string{own, m.names[0], "nobody"}[m.Intn(3)]
		}
		if bad || name != own {
			switch m.Intn(4) {
			case 0:
				apart.Names = append(apart.Names, name)
			case 1:
				l = append(l, api.Clause{Kind: api.ClauseApart, Names: []string{name}})
			case 2:
				l = append(l, api.Clause{Kind: api.ClauseNear, Names: []string{name}, A: m.pick([]int{0, 7, 1000000}, 1000001)})
			}
		}
	}
	if len(apart.Names) > 0 {
		l = append(l, apart)
	}
	if m.Intn(m.faults) == 0 {
		l = append(l, l[m.Intn(len(l))])
	}
	if m.Intn(m.faults) == 0 {
		l = l[1:]
	}
	m.Shuffle(len(l), func(i, j int) { l[i], l[j] = l[j], l[i] })
	for n := range l {
		l[n].At = m.next()
	}
	return l
}

func (m *maker) tree() []api.Clause {
	m.names, m.left = nil, 24
	for n := range m.pick([]int{0, 1, 2, 3, 5, 8}, 9, 10) {
		m.names = append(m.names, string(rune('a'+n)))
	}
	if len(m.names) > 1 && m.Intn(m.faults) == 0 {
		m.names[m.Intn(len(m.names))] = "a"
	}
	l := m.policy()
	for _, name := range m.names {
		l = slices.Insert(l, m.Intn(len(l)+1), api.Clause{Kind: api.ClauseService, Names: []string{name}})
	}
	for n := range l {
		l[n].At = m.next()
		if l[n].Kind == api.ClauseService {
			l[n].Items = m.items(l[n].Names[0])
		}
	}
	return l
}

// TestCheckAsReadTwice compares Check with the second reading for trees without a fault, with few and with many.
func TestCheckAsReadTwice(t *testing.T) {
	r := rand.New(rand.NewSource(3))
	counts := map[string]int{}
	kinds := map[int]api.ClauseKind{}
	for n := range 30000 {
		m := &maker{Rand: r, faults: []int{1 << 40, 200, 50, 10}[n%4]}
		l := m.tree()
		clear(kinds)
		for _, c := range l {
			kinds[c.At] = c.Kind
			for _, i := range c.Items {
				kinds[i.At] = i.Kind
			}
		}
		first, fine := checkSecond(t, l, place())
		if fine {
			counts["fine"]++
			continue
		}
		counts[fmt.Sprint(first.e, " of ", kinds[first.at], " in step ", first.rank[0])]++
	}
	for e, ofKinds := range map[api.Errno][]api.ClauseKind{
		api.ErrNone:      {api.ClauseService, api.ClauseWindow, api.ClauseApprove, api.ClauseCap, api.ClauseApart, api.ClauseNear},
		api.ErrArg:       {api.ClauseApart, api.ClauseNear},
		api.ErrDuplicate: {api.ClauseApprove, api.ClauseBlast, api.ClauseCap, api.ClauseCores, api.ClauseReplicas, api.ClauseLeast, api.ClauseSpread, api.ClauseApart, api.ClauseNear, api.ClauseFirmware},
		api.ErrRange:     {api.ClauseService, api.ClauseWindow, api.ClauseBlast, api.ClauseCap, api.ClauseCores, api.ClauseReplicas, api.ClauseLeast, api.ClauseSpread, api.ClauseNear, api.ClauseFirmware},
		api.ErrLimit:     {api.ClauseService, api.ClauseWindow},
	} {
		for _, k := range ofKinds {
			if key := fmt.Sprint(e, " of ", k, " in step ", 2); counts[key] < 5 {
				t.Errorf("only %d trees with %s", counts[key], key)
			}
		}
	}
	if counts["fine"] < 5000 || counts[fmt.Sprint(api.ErrLimit, " of ", api.ClauseService, " in step 1")] < 5 || counts[fmt.Sprint(api.ErrDuplicate, " of ", api.ClauseService, " in step 1")] < 5 {
		t.Errorf("too few trees of a sort: %v", counts)
	}
}

// P3.5: what Check returns is valid, and comes back from its tree, also after that was printed and parsed.

func TestWhatCheckReturnsIsValid(t *testing.T) {
	r := rand.New(rand.NewSource(4))
	printed := 0
	for n := range 4000 {
		m := &maker{Rand: r, faults: []int{1 << 40, 300}[n%2]}
		i, _, e := check.Check(m.tree(), place())
		if e != api.OK {
			continue
		}
		if !check.Valid(i, place()) {
			t.Fatalf("not Valid(%+v)", i)
		}
		l, e := check.Clauses(i)
		checkMeans(t, l, e, i)
		s, e := syntax.Print(l)
		if e == api.ErrLimit { // the text would have more than MaxText bytes, so there is nothing to parse
			continue
		}
		printed++
		l, _, parsed := syntax.Parse(s)
		checkMeans(t, l, max(e, parsed), i)
	}
	if printed < 1000 {
		t.Errorf("only %d intents were printed", printed)
	}
}

// checkMeans checks that a tree was returned without an error, and that it has this meaning.
func checkMeans(t *testing.T, l []api.Clause, e api.Errno, want api.Intent) {
	t.Helper()
	i, at, got := check.Check(l, place())
	if e != api.OK || form(i) != form(want) || at != 0 || got != api.OK {
		t.Fatalf("%d; Check(%+v) = %+v, %d, %d, want %+v", e, l, i, at, got, want)
	}
}

// TestClausesOfValidIntents goes from intents that are changed by one number to those that are valid, and to the meanings of their trees.
func TestClausesOfValidIntents(t *testing.T) {
	r := rand.New(rand.NewSource(5))
	valid, not := 0, 0
	for range 20000 {
		i := full()
		for range 1 + r.Intn(2) {
			numbers := numbersOf(&i)
			n := numbers[r.Intn(len(numbers))]
			*n = cmp.Or(r.Intn(3), *n+r.Intn(5)) - r.Intn(2)
		}
		l, e := check.Clauses(i)
		back, at, checked := check.Check(l, place())
		same := e == api.OK && checked == api.OK && at == 0 && form(back) == form(i)
		if check.Valid(i, place()) != same {
			t.Fatalf("Valid(%+v) = %v, but Check of its tree = %+v, %d, %d", i, !same, back, at, checked)
		}
		if same {
			valid++
		} else {
			not++
		}
	}
	if valid < 1000 || not < 1000 {
		t.Errorf("%d valid intents, %d others", valid, not)
	}
}

// numbersOf returns all numbers of an intent.
func numbersOf(i *api.Intent) []*int {
	var l []*int
	for n := range i.Wish.Services {
		s := &i.Wish.Services[n]
		l = append(l, &s.Cores, &s.Replicas, &s.Least, &s.Spread, &s.Firmware)
		for k := range s.Apart {
			l = append(l, &s.Apart[k])
		}
		for k := range s.Near {
			l = append(l, &s.Near[k].Service, &s.Near[k].Latency)
		}
	}
	p := &i.Policy
	l = append(l, &p.Blast, &p.Approvals[0].Index, &p.Approvals[1].Index)
	for k := range p.Caps {
		l = append(l, &p.Caps[k].Feed, &p.Caps[k].Watts)
	}
	return append(l, &p.Windows[0].Index, &p.Windows[1].From, &p.Windows[2].To)
}

// P3.5: the order of the items does not matter, but for which error is found.

func TestOrderOfItemsDoesNotMatter(t *testing.T) {
	r := rand.New(rand.NewSource(6))
	fine, faulty := 0, 0
	for n := range 6000 {
		m := &maker{Rand: r, faults: []int{1 << 40, 40}[n%2]}
		l := m.tree()
		i, _, e := check.Check(l, place())
		for _, c := range l {
			r.Shuffle(len(c.Items), func(i, j int) { c.Items[i], c.Items[j] = c.Items[j], c.Items[i] })
		}
		other, _, e2 := check.Check(l, place())
		if form(i) != form(other) || (e == api.OK) != (e2 == api.OK) {
			t.Fatalf("Check = %+v, %d, and with other orders of items %+v, %d (%+v)", i, e, other, e2, l)
		}
		if e == api.OK {
			fine++
		} else {
			faulty++
		}
	}
	if fine < 1000 || faulty < 1000 {
		t.Errorf("%d trees without errors, %d with one", fine, faulty)
	}
}
