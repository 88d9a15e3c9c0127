package network_test

import (
	"math"
	"math/rand"
	"slices"
	"testing"

	"majordomo/api"
	"majordomo/network"
)

// linked returns a site with so many switches and these links, with a rack with one host at each switch.
func linked(switches int, links ...api.Link) api.Site {
	s := api.Site{Feeds: make([]api.Feed, 1), Breakers: make([]api.Breaker, 1), Loops: make([]api.Loop, 1), Switches: switches, Links: links}
	for i := range switches {
		s.Racks = append(s.Racks, api.Rack{Switch: i})
		s.Hosts = append(s.Hosts, api.Host{Rack: i, Cores: 1})
	}
	return s
}

// example is the site of the chapter's examples.
func example() api.Site {
	return linked(3, api.Link{A: 0, B: 1, Latency: 4}, api.Link{A: 1, B: 2, Latency: 1}, api.Link{A: 0, B: 2, Latency: 5}, api.Link{A: 0, B: 2, Latency: 7})
}

// chain is a site with links of one latency between the switches that stand next to each other in a list.
func chain(latency int, switches ...int) api.Site {
	var links []api.Link
	for i := range len(switches) - 1 {
		links = append(links, api.Link{A: switches[i], B: switches[i+1], Latency: latency})
	}
	return linked(len(switches), links...)
}

// cube is a site of eight switches, with links of latency 1 between those whose numbers differ in one bit: there are many shortest ways.
func cube() api.Site {
	var links []api.Link
	for a := range 8 {
		for _, bit := range []int{1, 2, 4} {
			if a&bit == 0 {
				links = append(links, api.Link{A: a | bit, B: a, Latency: 1})
			}
		}
	}
	return linked(8, links...)
}

// wide is a site in which switches, racks and hosts do not stand in the order of each other: the switches 0, 3 and 4 are linked, 1 and 2 are linked, the switch 5 is alone; the switches 2 and 3 have no rack, and the rack 5 has no host.
func wide() api.Site {
	s := linked(6, api.Link{A: 4, B: 3, Latency: 2}, api.Link{A: 1, B: 2, Latency: 1}, api.Link{A: 0, B: 3, Latency: 3})
	s.Racks = []api.Rack{{Switch: 4}, {Switch: 0}, {Switch: 5}, {Switch: 4}, {Switch: 1}, {Switch: 0}}
	s.Hosts = nil
	for _, rack := range []int{3, 1, 4, 0, 0, 2, 1, 4} { // at the switches 4, 0, 1, 4, 4, 5, 0, 1
		s.Hosts = append(s.Hosts, api.Host{Rack: rack, Cores: 1})
	}
	return s
}

// crowded is a site with as much as possible of everything: two links of the greatest latency between each two neighbours of a chain, and two more at its beginning.
func crowded() api.Site {
	s := chain(api.MaxNumber, 3, 1, 4, 0, 5, 7, 2, 6)
	s.Links = append(slices.Concat(s.Links, s.Links), s.Links[:2]...)
	s.Feeds = slices.Repeat([]api.Feed{{Limit: api.MaxNumber}}, api.MaxFeeds)
	s.Breakers = slices.Repeat([]api.Breaker{{Feed: 3, Limit: api.MaxNumber, Slow: api.MaxNumber, Fast: api.MaxNumber}}, api.MaxBreakers)
	s.Loops = slices.Repeat([]api.Loop{{Carry: api.MaxNumber, Delay: 100}}, api.MaxLoops)
	for i := range s.Racks {
		s.Racks[i] = api.Rack{Row: 3, Breaker: 7, Loop: 3, Switch: i}
	}
	s.Hosts = nil
	for i := range api.MaxHosts {
		s.Hosts = append(s.Hosts, api.Host{Rack: i % 8, Cores: 1000, Idle: 10000, PerCore: 1000})
	}
	return s
}

// random returns a valid site with latencies up to the greatest one.
func random(r *rand.Rand, greatest int) api.Site {
	s := linked(1 + r.Intn(api.MaxSwitches))
	if s.Switches > 1 {
		for range r.Intn(api.MaxLinks + 1) {
			a := r.Intn(s.Switches)
			s.Links = append(s.Links, api.Link{A: a, B: (a + 1 + r.Intn(s.Switches-1)) % s.Switches, Latency: 1 + r.Intn(greatest)})
		}
	}
	s.Racks = make([]api.Rack, 1+r.Intn(api.MaxRacks))
	for i := range s.Racks {
		s.Racks[i].Switch = r.Intn(s.Switches)
	}
	s.Hosts = make([]api.Host, 1+r.Intn(api.MaxHosts))
	for i := range s.Hosts {
		s.Hosts[i] = api.Host{Rack: r.Intn(len(s.Racks)), Cores: 1}
	}
	return s
}

// someSites are valid sites.
func someSites(seed int64, many int) []api.Site {
	all := []api.Site{example(), linked(1), linked(2), linked(8), chain(api.MaxNumber, 3, 1, 4, 0, 5, 7, 2, 6), cube(), wide(), crowded()}
	r := rand.New(rand.NewSource(seed))
	for i := range many {
		all = append(all, random(r, []int{1, 2, 5, 30, api.MaxNumber}[i%5]))
	}
	return all
}

// misfits are sites that are not valid, by what is wrong: the example, spoilt.
func misfits() map[string]api.Site {
	all := map[string]api.Site{"nothing": {}, "switches alone": {Switches: 3, Links: example().Links}}
	for name, spoil := range map[string]func(s *api.Site){
		"no feeds":              func(s *api.Site) { s.Feeds = nil },
		"too many breakers":     func(s *api.Site) { s.Breakers = make([]api.Breaker, 9) },
		"a bad loop":            func(s *api.Site) { s.Loops[0].Delay = 101 },
		"a limit below 0":       func(s *api.Site) { s.Feeds[0].Limit = -1 },
		"no racks":              func(s *api.Site) { s.Racks = nil },
		"a row that is not":     func(s *api.Site) { s.Racks[0].Row = 4 },
		"no switches":           func(s *api.Site) { s.Switches = 0 },
		"a switch too few":      func(s *api.Site) { s.Switches = 2 },
		"less than no switches": func(s *api.Site) { s.Switches = math.MinInt },
		"too many switches":     func(s *api.Site) { s.Switches = 9 },
		"very many switches":    func(s *api.Site) { s.Switches = math.MaxInt },
		"a rack at no switch":   func(s *api.Site) { s.Racks[2].Switch = 3 },
		"a rack at switch -1":   func(s *api.Site) { s.Racks[2].Switch = -1 },
		"a rack very far":       func(s *api.Site) { s.Racks[2].Switch = math.MaxInt },
		"a link to itself":      func(s *api.Site) { s.Links[1].A = 2 },
		"a link from -1":        func(s *api.Site) { s.Links[1].A = -1 },
		"a link to nowhere":     func(s *api.Site) { s.Links[1].B = 3 },
		"a link very far":       func(s *api.Site) { s.Links[1].B = math.MinInt },
		"a latency of 0":        func(s *api.Site) { s.Links[1].Latency = 0 },
		"a latency below 0":     func(s *api.Site) { s.Links[3].Latency = -1 },
		"a latency too great":   func(s *api.Site) { s.Links[1].Latency = api.MaxNumber + 1 },
		"the least latency":     func(s *api.Site) { s.Links[1].Latency = math.MinInt },
		"too many links":        func(s *api.Site) { s.Links = slices.Repeat(s.Links[:1], 17) },
		"no hosts":              func(s *api.Site) { s.Hosts = []api.Host{} },
		"too many hosts":        func(s *api.Site) { s.Hosts = slices.Repeat(s.Hosts[:1], 17) },
		"a host without cores":  func(s *api.Site) { s.Hosts[0].Cores = 0 },
		"a host in no rack":     func(s *api.Site) { s.Hosts[1].Rack = 3 },
		"a host in rack -1":     func(s *api.Site) { s.Hosts[1].Rack = -1 },
		"a host very far":       func(s *api.Site) { s.Hosts[1].Rack = math.MaxInt },
	} {
		s := example()
		spoil(&s)
		all[name] = s
	}
	return all
}

// strangers are numbers that are none of so many, counted from 0.
func strangers(many int) []int {
	return []int{-1, -2, -many, many, many + 1, 16, many + 1<<32, -1 << 32, math.MaxInt, math.MaxInt - 1, math.MinInt, math.MinInt + 1}
}

// path is a way with its length, -1 if there is none.
type path struct {
	length int
	way    []int
}

// pathsFrom reads the chapter a second time: it goes each way from a switch, and keeps for each end the first one of the shortest.
func pathsFrom(s api.Site, a int) []path {
	best := slices.Repeat([]path{{length: -1}}, s.Switches)
	var from func(way []int, length int)
	from = func(way []int, length int) {
		at := way[len(way)-1]
		was := best[at]
		if was.length < 0 || length < was.length || length == was.length && slices.Compare(way, was.way) < 0 {
			best[at] = path{length, slices.Clone(way)}
		}
		for _, l := range s.Links {
			for _, ends := range [][2]int{{l.A, l.B}, {l.B, l.A}} {
				if ends[0] == at && !slices.Contains(way, ends[1]) {
					from(append(slices.Clone(way), ends[1]), length+l.Latency)
				}
			}
		}
	}
	from([]int{a}, 0)
	return best
}

// latenciesFrom reads the chapter a second time: the latencies from a host to each host.
func latenciesFrom(s api.Site, a int) []int {
	switchOf := func(host int) int { return s.Racks[s.Hosts[host].Rack].Switch }
	paths := pathsFrom(s, switchOf(a))
	var all []int
	for host := range s.Hosts {
		length := paths[switchOf(host)].length
		if length >= 0 {
			length++
		}
		if host == a {
			length = 0
		}
		all = append(all, length)
	}
	return all
}

// least returns the least latency of a link between two switches, -1 if there is none.
func least(s api.Site, a, b int) int {
	latency := -1
	for _, l := range s.Links {
		if (l.A == a && l.B == b || l.A == b && l.B == a) && (latency < 0 || l.Latency < latency) {
			latency = l.Latency
		}
	}
	return latency
}

func checkDistance(t *testing.T, s api.Site, a, b, want int) {
	t.Helper()
	if got := network.Distance(s, a, b); got != want {
		t.Errorf("%v: Distance(%d, %d) = %d, want %d", s, a, b, got, want)
	}
}

func checkLatency(t *testing.T, s api.Site, a, b, want int) {
	t.Helper()
	if got := network.Latency(s, a, b); got != want {
		t.Errorf("%v: Latency(%d, %d) = %d, want %d", s, a, b, got, want)
	}
}

func checkWay(t *testing.T, s api.Site, a, b int, want ...int) {
	t.Helper()
	if got := network.Way(s, a, b); !slices.Equal(got, want) {
		t.Errorf("%v: Way(%d, %d) = %v, want %v", s, a, b, got, want)
	}
}

func checkWithin(t *testing.T, s api.Site, a, most int, want ...int) {
	t.Helper()
	if got := network.Within(s, a, most); !slices.Equal(got, want) {
		t.Errorf("%v: Within(%d, %d) = %v, want %v", s, a, most, got, want)
	}
}

// checkNoSwitches checks two numbers of which at least one names no switch of a valid site.
func checkNoSwitches(t *testing.T, s api.Site, a, b int) {
	t.Helper()
	checkDistance(t, s, a, b, -1)
	checkWay(t, s, a, b)
}
