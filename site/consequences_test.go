package site_test

import (
	"math/rand"
	"slices"
	"testing"

	"majordomo/api"
	"majordomo/site"
)

// someSites are valid sites.
func someSites() []api.Site {
	all := []api.Site{example(), least(), greatest(), branching()}
	r := rand.New(rand.NewSource(4))
	for range 500 {
		all = append(all, randomSite(r))
	}
	return all
}

// P12.4: the consequences.

func TestEachHostIsInOneDomain(t *testing.T) {
	for _, s := range someSites() {
		for _, d := range kinds() {
			in := make([][]int, len(s.Hosts)) // by hosts, the domains that they are in
			for n := range site.Count(s, d) {
				for _, host := range site.Members(s, d, n) {
					in[host] = append(in[host], n)
				}
			}
			for host, l := range in {
				if of := site.DomainOf(s, d, host); !slices.Equal(l, []int{of}) {
					t.Errorf("host %d is in the domains %v of the kind %d, but DomainOf is %d", host, l, d, of)
				}
			}
		}
	}
}

func TestHostsOfARackStayTogether(t *testing.T) {
	for _, s := range someSites() {
		for rack := range site.Count(s, api.DomainRack) {
			hosts := site.Members(s, api.DomainRack, rack)
			for _, d := range []api.Domain{api.DomainRow, api.DomainFeed, api.DomainLoop} {
				for _, host := range hosts {
					if of, first := site.DomainOf(s, d, host), site.DomainOf(s, d, hosts[0]); of != first {
						t.Errorf("of rack %d, host %d is in the domain %d and host %d in the domain %d of the kind %d", rack, hosts[0], first, host, of, d)
					}
				}
			}
		}
	}
}

func TestMembersAscend(t *testing.T) {
	for _, s := range someSites() {
		for _, d := range kinds() {
			for n := range site.Count(s, d) {
				l := site.Members(s, d, n)
				if !slices.IsSorted(l) || len(slices.Compact(slices.Clone(l))) != len(l) {
					t.Errorf("Members(%d, %d) = %v", d, n, l)
				}
			}
		}
	}
}

// Nothing but racks, breakers and loops says where a host is.
func TestOtherNumbersDoNotMatter(t *testing.T) {
	r := rand.New(rand.NewSource(5))
	for _, s := range someSites() {
		other := copyOf(s)
		other.Switches, other.Links = api.MaxSwitches, greatest().Links
		for i := range other.Feeds {
			other.Feeds[i].Limit = r.Intn(api.MaxNumber)
		}
		for i, b := range other.Breakers {
			other.Breakers[i] = api.Breaker{Feed: b.Feed, Limit: r.Intn(api.MaxNumber)}
		}
		for i := range other.Loops {
			other.Loops[i] = api.Loop{Carry: r.Intn(api.MaxNumber)}
		}
		for i, h := range other.Hosts {
			other.Hosts[i] = api.Host{Rack: h.Rack, Cores: 1 + r.Intn(1000)}
		}
		for _, d := range kinds() {
			for host := range s.Hosts {
				if of, was := site.DomainOf(other, d, host), site.DomainOf(s, d, host); of != was {
					t.Errorf("DomainOf(%d, %d) is %d and %d", d, host, was, of)
				}
			}
		}
	}
}

// DOC.md, rules 2 to 5: nil and empty lists are the same, arguments stay as they are, results share no memory, equal arguments give equal results.

func TestNilAndEmpty(t *testing.T) {
	s := branching()
	s.Links = []api.Link{}
	checkValid(t, "no links", s, true)
	checkDomains(t, "no links", s)
	s.Links = nil
	checkValid(t, "nil links", s, true)
	checkDomains(t, "nil links", s)
	empty := api.Site{Feeds: []api.Feed{}, Breakers: []api.Breaker{}, Loops: []api.Loop{}, Racks: []api.Rack{}, Links: []api.Link{}, Hosts: []api.Host{}}
	for _, s := range []api.Site{empty, {}, {Switches: 1}} {
		checkValid(t, "nothing", s, false)
		for _, d := range kinds() {
			checkNoDomains(t, "nothing", s, d)
		}
	}
}

func TestMemoryOfArguments(t *testing.T) {
	all := someSites()
	for _, s := range misfits() {
		all = append(all, s)
	}
	for _, s := range all {
		handed := copyOf(s)
		site.Valid(handed)
		for _, d := range append(kinds(), api.DomainNone, 6) {
			site.Count(handed, d)
			for n := range 3 {
				site.DomainOf(handed, d, n)
				for i := range site.Members(handed, d, n) {
					site.Members(handed, d, n)[i] = 7777
				}
			}
		}
		checkUnspoilt(t, handed, s)
	}
}

func TestMemoryOfResults(t *testing.T) {
	for _, s := range someSites() {
		for _, d := range kinds() {
			for n := range site.Count(s, d) {
				want := slices.Clone(site.Members(s, d, n))
				l := site.Members(s, d, n)
				for i := range l[:cap(l)] {
					l[:cap(l)][i] = 7777
				}
				if got := site.Members(s, d, n); !slices.Equal(got, want) {
					t.Errorf("Members(%d, %d) = %v after a change of its result, want %v", d, n, got, want)
				}
			}
		}
	}
}
