package network_test

import (
	"math"
	"math/rand"
	"slices"
	"testing"

	"majordomo/api"
	"majordomo/network"
)

// P16.4: the consequences.

func TestSameBothWays(t *testing.T) {
	for _, s := range someSites(5, 1000) {
		for a := range s.Switches {
			for b := range s.Switches {
				checkDistance(t, s, b, a, network.Distance(s, a, b))
			}
		}
		for a := range s.Hosts {
			for b := range s.Hosts {
				checkLatency(t, s, b, a, network.Latency(s, a, b))
				if slices.Contains(network.Within(s, a, 4), b) != slices.Contains(network.Within(s, b, 4), a) {
					t.Errorf("%v: only one of the hosts %d and %d is within 4 of the other one", s, a, b)
				}
			}
		}
	}
}

// If there are ways from two switches to a third one, there is one between them.
func TestNoDetourIsShorter(t *testing.T) {
	for _, s := range someSites(6, 500) {
		for a := range s.Switches {
			for b := range s.Switches {
				for over := range s.Switches {
					there, on, d := network.Distance(s, a, over), network.Distance(s, over, b), network.Distance(s, a, b)
					if there >= 0 && on >= 0 && (d < 0 || d > there+on) {
						t.Errorf("%v: the distance of %d and %d is %d, over %d it is %d and %d", s, a, b, d, over, there, on)
					}
				}
			}
		}
	}
}

// lengthOf returns the length of a way, -1 if the list is no way between the two switches.
func lengthOf(s api.Site, a, b int, way []int) int {
	if len(way) == 0 || way[0] != a || way[len(way)-1] != b {
		return -1
	}
	length := 0
	for i, at := range way {
		if slices.Contains(way[:i], at) {
			return -1
		}
		if i > 0 {
			latency := least(s, way[i-1], at)
			if latency < 0 {
				return -1
			}
			length += latency
		}
	}
	return length
}

func TestLengthOfWayIsDistance(t *testing.T) {
	none := 0
	for _, s := range someSites(7, 1000) {
		for a := range s.Switches {
			for b := range s.Switches {
				way := network.Way(s, a, b)
				checkDistance(t, s, a, b, lengthOf(s, a, b, way))
				if len(way) == 0 {
					none++
				}
			}
		}
	}
	if none < 1000 {
		t.Errorf("only %d pairs of switches have no way", none)
	}
}

// The rest of a first way is the first way from there.
func TestRestsOfWays(t *testing.T) {
	for _, s := range someSites(8, 500) {
		for a := range s.Switches {
			for b := range s.Switches {
				way := network.Way(s, a, b)
				for i, at := range way {
					checkWay(t, s, at, b, way[i:]...)
				}
			}
		}
	}
}

// Neither the order of the links nor which end is A matters, nor a link that is there twice.
func TestOrderOfLinksDoesNotMatter(t *testing.T) {
	r := rand.New(rand.NewSource(9))
	for _, s := range someSites(10, 500) {
		other := s
		other.Links = slices.Clone(s.Links)
		if len(other.Links) > 0 && len(other.Links) < api.MaxLinks {
			other.Links = append(other.Links, other.Links[0])
		}
		r.Shuffle(len(other.Links), func(i, j int) { other.Links[i], other.Links[j] = other.Links[j], other.Links[i] })
		for i, l := range other.Links {
			if r.Intn(2) == 0 {
				other.Links[i] = api.Link{A: l.B, B: l.A, Latency: l.Latency}
			}
		}
		checkAlike(t, s, other)
	}
}

// Nothing but switches, links and the places of hosts matters.
func TestOtherNumbersDoNotMatter(t *testing.T) {
	for _, s := range someSites(11, 200) {
		other := s
		other.Feeds, other.Breakers, other.Loops = crowded().Feeds, crowded().Breakers, crowded().Loops
		other.Racks, other.Hosts = slices.Clone(s.Racks), slices.Clone(s.Hosts)
		for i, r := range s.Racks {
			other.Racks[i] = api.Rack{Row: i % 4, Breaker: 7 - i, Loop: 3 - i%4, Switch: r.Switch}
		}
		for i, h := range s.Hosts {
			other.Hosts[i] = api.Host{Rack: h.Rack, Cores: 1000 - i, Idle: 100 * i, PerCore: i}
		}
		checkAlike(t, s, other)
	}
}

// checkAlike checks that all functions say the same of two sites.
func checkAlike(t *testing.T, s, other api.Site) {
	t.Helper()
	for a := -1; a <= s.Switches; a++ {
		for b := range s.Switches {
			checkDistance(t, other, a, b, network.Distance(s, a, b))
			checkWay(t, other, a, b, network.Way(s, a, b)...)
		}
	}
	for a := -1; a <= len(s.Hosts); a++ {
		for b := range s.Hosts {
			checkLatency(t, other, a, b, network.Latency(s, a, b))
		}
		for _, most := range []int{-1, 0, 1, 4, 9, math.MaxInt} {
			checkWithin(t, other, a, most, network.Within(s, a, most)...)
		}
	}
}

// DOC.md, rules 2 to 5: nil and empty lists are the same, arguments stay as they are, results share no memory, equal arguments give equal results.

func TestNilAndEmpty(t *testing.T) {
	s := wide()
	s.Links = nil
	other := s
	other.Links = []api.Link{}
	checkAlike(t, s, other)
	checkDistance(t, other, 0, 4, -1)
	checkWay(t, other, 3, 3, 3)
	checkWithin(t, other, 6, 9, 1, 6)
	empty := api.Site{Feeds: []api.Feed{}, Breakers: []api.Breaker{}, Loops: []api.Loop{}, Racks: []api.Rack{}, Switches: 1, Links: []api.Link{}, Hosts: []api.Host{}}
	checkNoSwitches(t, empty, 0, 0)
	checkLatency(t, empty, 0, 0, -1)
	checkWithin(t, empty, 0, 0)
}

// copyOf returns a site that shares no memory with another one, and has room behind its lists.
func copyOf(s api.Site) api.Site {
	s.Feeds = append(slices.Clone(s.Feeds), api.Feed{Limit: 77})[:len(s.Feeds)]
	s.Breakers = append(slices.Clone(s.Breakers), api.Breaker{Limit: 77})[:len(s.Breakers)]
	s.Loops = append(slices.Clone(s.Loops), api.Loop{Carry: 77})[:len(s.Loops)]
	s.Racks = append(slices.Clone(s.Racks), api.Rack{Switch: 77})[:len(s.Racks)]
	s.Links = append(slices.Clone(s.Links), api.Link{Latency: 77})[:len(s.Links)]
	s.Hosts = append(slices.Clone(s.Hosts), api.Host{Rack: 77})[:len(s.Hosts)]
	return s
}

// withRoom returns a list with the element behind it.
func withRoom[T any](l []T) []T { return l[:len(l)+1] }

// isUnspoilt reports whether a site that copyOf returned is still the same as the other one, with its room.
func isUnspoilt(s, as api.Site) bool {
	as = copyOf(as)
	return s.Switches == as.Switches &&
		slices.Equal(withRoom(s.Feeds), withRoom(as.Feeds)) &&
		slices.Equal(withRoom(s.Breakers), withRoom(as.Breakers)) &&
		slices.Equal(withRoom(s.Loops), withRoom(as.Loops)) &&
		slices.Equal(withRoom(s.Racks), withRoom(as.Racks)) &&
		slices.Equal(withRoom(s.Links), withRoom(as.Links)) &&
		slices.Equal(withRoom(s.Hosts), withRoom(as.Hosts))
}

func TestMemoryOfArguments(t *testing.T) {
	all := someSites(12, 100)
	for _, s := range misfits() {
		all = append(all, s)
	}
	for _, s := range all {
		handed := copyOf(s)
		for a := -1; a <= 8; a++ {
			for b := -1; b <= 8; b++ {
				network.Distance(handed, a, b)
				network.Latency(handed, a, b)
				network.Way(handed, a, b)
				network.Within(handed, a, b)
			}
		}
		if !isUnspoilt(handed, s) {
			t.Errorf("the site %v was changed to %v", s, handed)
		}
	}
}

// checkOwnMemory checks that a change of a result has no effect on an earlier or a later one.
func checkOwnMemory(t *testing.T, name string, call func() []int) {
	t.Helper()
	earlier, l := call(), call()
	want := slices.Clone(earlier)
	l = l[:cap(l)]
	for i := range l {
		l[i] = 7777
	}
	if later := call(); !slices.Equal(earlier, want) || !slices.Equal(later, want) {
		t.Errorf("%s: %v became %v, and then %v", name, want, earlier, later)
	}
}

func TestMemoryOfResults(t *testing.T) {
	for _, s := range someSites(13, 100) {
		handed := copyOf(s)
		for a := range 8 {
			for b := range 8 {
				checkOwnMemory(t, "Way", func() []int { return network.Way(handed, a, b) })
				checkOwnMemory(t, "Within", func() []int { return network.Within(handed, a, b) })
			}
		}
		if !isUnspoilt(handed, s) {
			t.Errorf("the site %v was changed to %v by its results", s, handed)
		}
	}
}
