package site_test

import (
	"math/rand"
	"slices"
	"testing"

	"majordomo/api"
	"majordomo/site"
)

// P12.1: Valid.

func TestValidSites(t *testing.T) {
	for name, s := range map[string]api.Site{"example": example(), "least": least(), "greatest": greatest(), "branching": branching()} {
		checkValid(t, name, s, true)
	}
}

func TestInvalidSites(t *testing.T) {
	for name, s := range misfits() {
		checkValid(t, name, s, false)
	}
}

// Each number of each part of a site may be all that its range allows, and nothing else.
func TestRangesOfNumbers(t *testing.T) {
	for _, s := range []api.Site{example(), least(), greatest(), branching()} {
		for _, n := range numbersOf(&s)[1:] {
			was := *n.at
			for _, good := range []int{n.least, n.most, n.least + (n.most-n.least)/2} {
				*n.at = good
				checkValid(t, n.name, s, true)
			}
			for _, bad := range outside(n.least, n.most) {
				*n.at = bad
				checkValid(t, n.name, s, false)
			}
			*n.at = was
		}
	}
}

// TestCurvesOfBreakers holds that a breaker may be slow and fast without regard to its limit.
func TestCurvesOfBreakers(t *testing.T) {
	s := least()
	for _, b := range []api.Breaker{{Limit: 5}, {Slow: 5}, {Fast: 5}, {Limit: 10, Fast: 9}, {Slow: 10, Fast: 9}} {
		s.Breakers[0] = b
		checkValid(t, "a breaker", s, true)
	}
}

func TestNumbersOfSwitches(t *testing.T) {
	s := least()
	for n := 1; n <= 8; n++ {
		s.Switches = n
		checkValid(t, "Switches", s, true)
	}
	for _, n := range append(outside(1, 8), 0) {
		s.Switches = n
		checkValid(t, "Switches", s, false)
	}
}

func TestSwitchesOfRacksAndLinks(t *testing.T) {
	for switches := 1; switches <= 8; switches++ {
		s := least()
		s.Switches = switches
		exists := func(n int) bool { return n >= 0 && n < switches }
		numbers := append(outside(0, switches-1), 0, 1, 2, 3, 4, 5, 6, 7)
		for _, a := range numbers {
			s.Racks[0].Switch, s.Links = a, nil
			checkValid(t, "a rack's Switch", s, exists(a))
			s.Racks[0].Switch = 0
			for _, b := range numbers {
				s.Links = []api.Link{{A: a, B: b, Latency: 1}}
				checkValid(t, "the ends of a link", s, exists(a) && exists(b) && a != b)
			}
		}
	}
}

func TestLengthsOfLists(t *testing.T) {
	for _, l := range []struct {
		name     string
		from, to int
		set      func(s *api.Site, n int)
	}{
		{"Feeds", 1, 4, func(s *api.Site, n int) { s.Feeds = slices.Repeat(s.Feeds, n) }},
		{"Breakers", 1, 8, func(s *api.Site, n int) { s.Breakers = slices.Repeat(s.Breakers, n) }},
		{"Loops", 1, 4, func(s *api.Site, n int) { s.Loops = slices.Repeat(s.Loops, n) }},
		{"Racks", 1, 8, func(s *api.Site, n int) { s.Racks = slices.Repeat(s.Racks, n) }},
		{"Links", 0, 16, func(s *api.Site, n int) {
			s.Switches, s.Links = 2, slices.Repeat([]api.Link{{A: 0, B: 1, Latency: 1}}, n)
		}},
		{"Hosts", 1, 16, func(s *api.Site, n int) { s.Hosts = slices.Repeat(s.Hosts, n) }},
	} {
		for _, n := range []int{0, 1, 2, 3, 4, 5, 6, 7, 8, 9, 10, 15, 16, 17, 18, 32, 1000, 1 << 20} {
			s := least()
			l.set(&s, n)
			checkValid(t, l.name, s, n >= l.from && n <= l.to)
		}
	}
}

// What names a part of a site is not valid without this part, though another list may be long enough.
func TestPartsThatAreNotThere(t *testing.T) {
	for name, change := range map[string]func(s *api.Site){
		"the breaker's feed": func(s *api.Site) { s.Feeds = s.Feeds[:3] },
		"the rack's breaker": func(s *api.Site) { s.Breakers = s.Breakers[:7] },
		"the rack's loop":    func(s *api.Site) { s.Loops = s.Loops[:3] },
		"the host's rack":    func(s *api.Site) { s.Racks = s.Racks[:7] },
		"the rack's switch":  func(s *api.Site) { s.Switches, s.Links = 7, nil },
		"the link's switch":  func(s *api.Site) { s.Switches, s.Racks = 7, make([]api.Rack, 8) },
	} {
		s := greatest()
		change(&s)
		checkValid(t, name, s, false)
	}
	s := greatest()
	s.Hosts, s.Links = s.Hosts[:1], s.Links[:0]
	checkValid(t, "without parts that nothing names", s, true)
}

func TestRandomSites(t *testing.T) {
	r := rand.New(rand.NewSource(12))
	valid := 0
	for range 20000 {
		s := randomSite(r)
		checkValid(t, "a random site", s, true)
		all := numbersOf(&s)
		for range r.Intn(3) {
			n := all[r.Intn(len(all))]
			*n.at = []int{n.least - 1, n.least, n.most, n.most + 1, n.least + r.Intn(5)}[r.Intn(5)]
		}
		if len(s.Links) > 0 && r.Intn(4) == 0 {
			l := &s.Links[r.Intn(len(s.Links))]
			*[]*int{&l.A, &l.B}[r.Intn(2)] = r.Intn(s.Switches+2) - 1
		}
		want := isValid(s)
		if want {
			valid++
		}
		checkValid(t, "a changed site", s, want)
	}
	if valid < 5000 || valid > 15000 {
		t.Errorf("%d of the changed sites are valid", valid)
	}
}

// P12.2: Count and DomainOf.

func TestExamplesOfCount(t *testing.T) {
	for d, want := range map[api.Domain]int{api.DomainHost: 3, api.DomainRack: 2, api.DomainRow: 4, api.DomainFeed: 1, api.DomainLoop: 1, api.DomainNone: 0, 6: 0, 255: 0} {
		if n := site.Count(example(), d); n != want {
			t.Errorf("Count(%d) = %d, want %d", d, n, want)
		}
	}
}

func TestExamplesOfDomainOf(t *testing.T) {
	for d, want := range map[api.Domain][]int{
		api.DomainHost: {0, 1, 2},
		api.DomainRack: {0, 0, 1},
		api.DomainRow:  {0, 0, 2},
		api.DomainFeed: {0, 0, 0},
		api.DomainLoop: {0, 0, 0},
		api.DomainNone: {-1, -1, -1},
		6:              {-1, -1, -1},
	} {
		for host, n := range want {
			if of := site.DomainOf(example(), d, host); of != n {
				t.Errorf("DomainOf(%d, %d) = %d, want %d", d, host, of, n)
			}
		}
		if of := site.DomainOf(example(), d, 3); of != -1 {
			t.Errorf("DomainOf(%d, 3) = %d, want -1", d, of)
		}
	}
}

func TestDomainOfBranching(t *testing.T) {
	for d, want := range map[api.Domain][]int{
		api.DomainHost: {0, 1, 2, 3, 4, 5},
		api.DomainRack: {4, 1, 0, 1, 2, 0},
		api.DomainRow:  {3, 3, 1, 3, 1, 1},
		api.DomainFeed: {0, 2, 2, 2, 0, 2},
		api.DomainLoop: {0, 1, 3, 1, 3, 3},
	} {
		for host, n := range want {
			if of := site.DomainOf(branching(), d, host); of != n {
				t.Errorf("DomainOf(%d, %d) = %d, want %d", d, host, of, n)
			}
		}
	}
}

func TestDomainOfNoHost(t *testing.T) {
	for _, s := range []api.Site{example(), least(), greatest(), branching()} {
		for _, d := range kinds() {
			for _, host := range outside(0, len(s.Hosts)-1) {
				if of := site.DomainOf(s, d, host); of != -1 {
					t.Errorf("DomainOf(%d, %d) = %d, want -1", d, host, of)
				}
			}
		}
	}
}

// P12.3: Members.

func TestExamplesOfMembers(t *testing.T) {
	for d, want := range map[api.Domain][][]int{
		api.DomainHost: {{0}, {1}, {2}, nil},
		api.DomainRack: {{0, 1}, {2}, nil},
		api.DomainRow:  {{0, 1}, nil, {2}, nil, nil},
		api.DomainFeed: {{0, 1, 2}, nil},
		api.DomainLoop: {{0, 1, 2}, nil},
		api.DomainNone: {nil, nil},
		6:              {nil, nil},
	} {
		for n, hosts := range want {
			if l := site.Members(example(), d, n); !slices.Equal(l, hosts) {
				t.Errorf("Members(%d, %d) = %v, want %v", d, n, l, hosts)
			}
		}
	}
}

func TestMembersOfBranching(t *testing.T) {
	for d, want := range map[api.Domain][][]int{
		api.DomainHost: {{0}, {1}, {2}, {3}, {4}, {5}},
		api.DomainRack: {{2, 5}, {1, 3}, {4}, nil, {0}},
		api.DomainRow:  {nil, {2, 4, 5}, nil, {0, 1, 3}},
		api.DomainFeed: {{0, 4}, nil, {1, 2, 3, 5}},
		api.DomainLoop: {{0}, {1, 3}, nil, {2, 4, 5}},
	} {
		for n, hosts := range want {
			if l := site.Members(branching(), d, n); !slices.Equal(l, hosts) {
				t.Errorf("Members(%d, %d) = %v, want %v", d, n, l, hosts)
			}
		}
	}
}

func TestMembersOfNoDomain(t *testing.T) {
	for _, s := range []api.Site{example(), least(), greatest(), branching()} {
		for _, d := range kinds() {
			for _, n := range outside(0, countOf(s, d)-1) {
				if l := site.Members(s, d, n); len(l) != 0 {
					t.Errorf("Members(%d, %d) = %v, want none", d, n, l)
				}
			}
		}
	}
}

func TestDomainsOfSites(t *testing.T) {
	for name, s := range map[string]api.Site{"example": example(), "least": least(), "greatest": greatest(), "branching": branching()} {
		checkDomains(t, name, s)
	}
	r := rand.New(rand.NewSource(3))
	for range 2000 {
		checkDomains(t, "a random site", randomSite(r))
	}
}

func TestNoDomains(t *testing.T) {
	for _, d := range otherKinds() {
		for name, s := range map[string]api.Site{"example": example(), "greatest": greatest(), "branching": branching()} {
			checkNoDomains(t, name, s, d)
		}
	}
}

func TestDomainsOfInvalidSites(t *testing.T) {
	for name, s := range misfits() {
		for _, d := range append(kinds(), api.DomainNone, 6, 255) {
			checkNoDomains(t, name, s, d)
		}
	}
}
