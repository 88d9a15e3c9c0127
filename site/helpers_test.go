package site_test

import (
	"math"
	"math/rand"
	"slices"
	"testing"

	"majordomo/api"
	"majordomo/site"
)

// example is the site of the chapter's examples.
func example() api.Site {
	return api.Site{
		Feeds:    make([]api.Feed, 1),
		Breakers: make([]api.Breaker, 1),
		Loops:    make([]api.Loop, 1),
		Racks:    []api.Rack{{Row: 0}, {Row: 2}},
		Switches: 1,
		Hosts:    []api.Host{{Rack: 0, Cores: 1}, {Rack: 0, Cores: 1}, {Rack: 1, Cores: 1}},
	}
}

// least is a site with as little as possible of everything.
func least() api.Site {
	return api.Site{
		Feeds:    []api.Feed{{}},
		Breakers: []api.Breaker{{}},
		Loops:    []api.Loop{{}},
		Racks:    []api.Rack{{}},
		Switches: 1,
		Hosts:    []api.Host{{Cores: 1}},
	}
}

// greatest is a site with as much as possible of everything.
func greatest() api.Site {
	return api.Site{
		Feeds:    slices.Repeat([]api.Feed{{Limit: api.MaxNumber}}, api.MaxFeeds),
		Breakers: slices.Repeat([]api.Breaker{{Feed: 3, Limit: api.MaxNumber, Slow: api.MaxNumber, Fast: api.MaxNumber}}, api.MaxBreakers),
		Loops:    slices.Repeat([]api.Loop{{Carry: api.MaxNumber, Delay: 100}}, api.MaxLoops),
		Racks:    slices.Repeat([]api.Rack{{Row: 3, Breaker: 7, Loop: 3, Switch: 7}}, api.MaxRacks),
		Switches: api.MaxSwitches,
		Links:    slices.Repeat([]api.Link{{A: 7, B: 6, Latency: api.MaxNumber}}, api.MaxLinks),
		Hosts:    slices.Repeat([]api.Host{{Rack: 7, Cores: 1000, Idle: 10000, PerCore: 1000}}, api.MaxHosts),
	}
}

// branching is a site in which no two kinds of domains divide the hosts alike, and each kind has a domain without hosts.
func branching() api.Site {
	return api.Site{
		Feeds:    make([]api.Feed, 3),
		Breakers: []api.Breaker{{Feed: 2}, {Feed: 0}, {Feed: 2}, {Feed: 1}},
		Loops:    make([]api.Loop, 4),
		Racks:    []api.Rack{{Row: 1, Breaker: 2, Loop: 3}, {Row: 3, Breaker: 0, Loop: 1}, {Row: 1, Breaker: 1, Loop: 3}, {Row: 0, Breaker: 3, Loop: 0}, {Row: 3, Breaker: 1, Loop: 0}},
		Switches: 1,
		Hosts:    []api.Host{{Rack: 4, Cores: 1}, {Rack: 1, Cores: 1}, {Rack: 0, Cores: 1}, {Rack: 1, Cores: 1}, {Rack: 2, Cores: 1}, {Rack: 0, Cores: 1}},
	}
}

// copyOf returns a site that shares no memory with another one, and has room behind its lists.
func copyOf(s api.Site) api.Site {
	s.Feeds = append(slices.Clone(s.Feeds), api.Feed{Limit: 77})[:len(s.Feeds)]
	s.Breakers = append(slices.Clone(s.Breakers), api.Breaker{Limit: 77})[:len(s.Breakers)]
	s.Loops = append(slices.Clone(s.Loops), api.Loop{Carry: 77})[:len(s.Loops)]
	s.Racks = append(slices.Clone(s.Racks), api.Rack{Row: 77})[:len(s.Racks)]
	s.Links = append(slices.Clone(s.Links), api.Link{Latency: 77})[:len(s.Links)]
	s.Hosts = append(slices.Clone(s.Hosts), api.Host{Cores: 77})[:len(s.Hosts)]
	return s
}

// checkUnspoilt checks that a site that copyOf returned is still the same as the other one, with its room.
func checkUnspoilt(t *testing.T, s, as api.Site) {
	t.Helper()
	same := slices.Equal(s.Feeds[:len(as.Feeds)+1], append(slices.Clone(as.Feeds), api.Feed{Limit: 77})) &&
		slices.Equal(s.Breakers[:len(as.Breakers)+1], append(slices.Clone(as.Breakers), api.Breaker{Limit: 77})) &&
		slices.Equal(s.Loops[:len(as.Loops)+1], append(slices.Clone(as.Loops), api.Loop{Carry: 77})) &&
		slices.Equal(s.Racks[:len(as.Racks)+1], append(slices.Clone(as.Racks), api.Rack{Row: 77})) &&
		slices.Equal(s.Links[:len(as.Links)+1], append(slices.Clone(as.Links), api.Link{Latency: 77})) &&
		slices.Equal(s.Hosts[:len(as.Hosts)+1], append(slices.Clone(as.Hosts), api.Host{Cores: 77}))
	if !same || s.Switches != as.Switches {
		t.Errorf("the site %v was changed to %v", as, s)
	}
}

// bounded is a number of a site that has to be from least to most.
type bounded struct {
	name        string
	at          *int
	least, most int
}

// numbersOf returns the numbers of a site, but not the switches of its links, which have to differ.
func numbersOf(s *api.Site) []bounded {
	all := []bounded{{"Switches", &s.Switches, 1, 8}}
	for i := range s.Feeds {
		all = append(all, bounded{"a feed's Limit", &s.Feeds[i].Limit, 0, 1000000})
	}
	for i := range s.Breakers {
		b := &s.Breakers[i]
		all = append(all, bounded{"a breaker's Feed", &b.Feed, 0, len(s.Feeds) - 1}, bounded{"a breaker's Limit", &b.Limit, 0, 1000000},
			bounded{"Slow", &b.Slow, 0, 1000000}, bounded{"Fast", &b.Fast, 0, 1000000})
	}
	for i := range s.Loops {
		all = append(all, bounded{"Carry", &s.Loops[i].Carry, 0, 1000000}, bounded{"Delay", &s.Loops[i].Delay, 0, 100})
	}
	for i := range s.Racks {
		r := &s.Racks[i]
		all = append(all, bounded{"Row", &r.Row, 0, 3}, bounded{"a rack's Breaker", &r.Breaker, 0, len(s.Breakers) - 1},
			bounded{"a rack's Loop", &r.Loop, 0, len(s.Loops) - 1}, bounded{"a rack's Switch", &r.Switch, 0, s.Switches - 1})
	}
	for i := range s.Links {
		all = append(all, bounded{"Latency", &s.Links[i].Latency, 1, 1000000})
	}
	for i := range s.Hosts {
		h := &s.Hosts[i]
		all = append(all, bounded{"a host's Rack", &h.Rack, 0, len(s.Racks) - 1}, bounded{"Cores", &h.Cores, 1, 1000},
			bounded{"Idle", &h.Idle, 0, 10000}, bounded{"PerCore", &h.PerCore, 0, 1000})
	}
	return all
}

// isValid reads the chapter a second time: a site is valid if no number and no list of it is out of its range.
func isValid(s api.Site) bool {
	fits := func(n bounded) bool { return *n.at >= n.least && *n.at <= n.most }
	lists := [][3]int{{len(s.Feeds), 1, 4}, {len(s.Breakers), 1, 8}, {len(s.Loops), 1, 4}, {len(s.Racks), 1, 8}, {len(s.Links), 0, 16}, {len(s.Hosts), 1, 16}}
	for _, l := range lists {
		if !fits(bounded{"", &l[0], l[1], l[2]}) {
			return false
		}
	}
	for _, l := range s.Links {
		if l.A == l.B || !fits(bounded{"", &l.A, 0, s.Switches - 1}) || !fits(bounded{"", &l.B, 0, s.Switches - 1}) {
			return false
		}
	}
	for _, n := range numbersOf(&s) {
		if !fits(n) {
			return false
		}
	}
	return true
}

// outside are numbers that are not from least to most.
func outside(least, most int) []int {
	return []int{least - 1, least - 2, most + 1, most + 2, most + 1<<32, -1 << 32, math.MaxInt, math.MaxInt - 1, math.MinInt, math.MinInt + 1}
}

// misfits are sites that are not valid, by what is wrong.
func misfits() map[string]api.Site {
	all := map[string]api.Site{"nothing": {}}
	for name, spoil := range map[string]func(s *api.Site){
		"no feeds":    func(s *api.Site) { s.Feeds = nil },
		"no breakers": func(s *api.Site) { s.Breakers = []api.Breaker{} },
		"no loops":    func(s *api.Site) { s.Loops = nil },
		"no racks":    func(s *api.Site) { s.Racks = []api.Rack{} },
		"no hosts":    func(s *api.Site) { s.Hosts = nil },
		"no switches": func(s *api.Site) { s.Switches = 0 },
		"many feeds":  func(s *api.Site) { s.Feeds = make([]api.Feed, 5) },
		"many hosts":  func(s *api.Site) { s.Hosts = slices.Repeat(s.Hosts[:1], 1<<20) },
		"a bad feed":  func(s *api.Site) { s.Feeds[0].Limit = -1 },
		"no feed 99":  func(s *api.Site) { s.Breakers[0].Feed = 99 },
		"no breaker":  func(s *api.Site) { s.Racks[0].Breaker = -1 },
		"no loop":     func(s *api.Site) { s.Racks[0].Loop = 4 },
		"no switch":   func(s *api.Site) { s.Racks[0].Switch = -1 },
		"no row 4":    func(s *api.Site) { s.Racks[0].Row = 4 },
		"no rack -1":  func(s *api.Site) { s.Hosts[1].Rack = -1 },
		"no rack 8":   func(s *api.Site) { s.Hosts[1].Rack = 8 },
		"no cores":    func(s *api.Site) { s.Hosts[1].Cores = 0 },
		"a bad link":  func(s *api.Site) { s.Links = []api.Link{{A: 0, B: 0, Latency: 1}} },
		"a far link":  func(s *api.Site) { s.Links = []api.Link{{A: 0, B: 8, Latency: 1}} },
	} {
		s := branching()
		spoil(&s)
		all[name] = s
	}
	return all
}

// randomSite returns a valid site.
func randomSite(r *rand.Rand) api.Site {
	from := func(least, most int) int { return least + r.Intn(most-least+1) }
	s := api.Site{
		Feeds:    make([]api.Feed, from(1, api.MaxFeeds)),
		Breakers: make([]api.Breaker, from(1, api.MaxBreakers)),
		Loops:    make([]api.Loop, from(1, api.MaxLoops)),
		Racks:    make([]api.Rack, from(1, api.MaxRacks)),
		Switches: from(1, api.MaxSwitches),
		Hosts:    make([]api.Host, from(1, api.MaxHosts)),
	}
	if s.Switches > 1 {
		s.Links = make([]api.Link, from(0, api.MaxLinks))
	}
	for i := range s.Links {
		a := from(0, s.Switches-1)
		s.Links[i].A, s.Links[i].B = a, (a+from(1, s.Switches-1))%s.Switches
	}
	for _, n := range numbersOf(&s)[1:] {
		*n.at = from(n.least, n.most)
	}
	return s
}

// membersOf returns the hosts of a domain of a valid site, found from the domain downwards.
func membersOf(s api.Site, d api.Domain, n int) []int {
	var racks []int // the racks of the domain
	for i, r := range s.Racks {
		breakers := map[int]bool{} // those on the feed n
		for j, b := range s.Breakers {
			breakers[j] = b.Feed == n
		}
		if map[api.Domain]bool{api.DomainRack: i == n, api.DomainRow: r.Row == n, api.DomainFeed: breakers[r.Breaker], api.DomainLoop: r.Loop == n}[d] {
			racks = append(racks, i)
		}
	}
	var hosts []int
	for i, h := range s.Hosts {
		if slices.Contains(racks, h.Rack) || d == api.DomainHost && i == n {
			hosts = append(hosts, i)
		}
	}
	return hosts
}

// countOf returns how many domains of a kind a valid site has.
func countOf(s api.Site, d api.Domain) int {
	return map[api.Domain]int{api.DomainHost: len(s.Hosts), api.DomainRack: len(s.Racks), api.DomainRow: 4, api.DomainFeed: len(s.Feeds), api.DomainLoop: len(s.Loops)}[d]
}

// kinds are the kinds of which there are domains.
func kinds() []api.Domain {
	return []api.Domain{api.DomainHost, api.DomainRack, api.DomainRow, api.DomainFeed, api.DomainLoop}
}

// otherKinds are the kinds of which there are none.
func otherKinds() []api.Domain {
	all := []api.Domain{api.DomainNone}
	for d := int(api.DomainLoop) + 1; d <= math.MaxUint8; d++ {
		all = append(all, api.Domain(d))
	}
	return all
}

func checkValid(t *testing.T, name string, s api.Site, want bool) {
	t.Helper()
	if site.Valid(s) != want {
		t.Errorf("%s: Valid is %t, want %t", name, !want, want)
	}
}

// checkNoDomains checks that there are no domains of a kind.
func checkNoDomains(t *testing.T, name string, s api.Site, d api.Domain) {
	t.Helper()
	if n := site.Count(s, d); n != 0 {
		t.Errorf("%s: Count(%d) = %d, want 0", name, d, n)
	}
	for _, n := range append(outside(0, 15), 0, 1, 2, 3, 4, 15) {
		if of := site.DomainOf(s, d, n); of != -1 {
			t.Errorf("%s: DomainOf(%d, %d) = %d, want -1", name, d, n, of)
		}
		if l := site.Members(s, d, n); len(l) != 0 {
			t.Errorf("%s: Members(%d, %d) = %v, want none", name, d, n, l)
		}
	}
}

// checkDomains checks what is said about all domains of all kinds of a valid site.
func checkDomains(t *testing.T, name string, s api.Site) {
	t.Helper()
	for _, d := range kinds() {
		many := countOf(s, d)
		if n := site.Count(s, d); n != many {
			t.Errorf("%s: Count(%d) = %d, want %d", name, d, n, many)
		}
		for n := range many {
			want := membersOf(s, d, n)
			if got := site.Members(s, d, n); !slices.Equal(got, want) {
				t.Errorf("%s: Members(%d, %d) = %v, want %v", name, d, n, got, want)
			}
			for _, host := range want {
				if of := site.DomainOf(s, d, host); of != n {
					t.Errorf("%s: DomainOf(%d, %d) = %d, want %d", name, d, host, of, n)
				}
			}
		}
	}
}
