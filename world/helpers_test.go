package world_test

import (
	"math"
	"math/rand"
	"slices"
	"testing"

	"majordomo/api"
	"majordomo/world"
)

// exampleSite is the site of the chapter's examples.
func exampleSite() api.Site {
	return api.Site{
		Feeds:    make([]api.Feed, 1),
		Breakers: make([]api.Breaker, 1),
		Loops:    make([]api.Loop, 1),
		Racks:    []api.Rack{{Row: 0}, {Row: 2}},
		Switches: 1,
		Hosts:    []api.Host{{Rack: 0, Cores: 1}, {Rack: 0, Cores: 1}, {Rack: 1, Cores: 1}},
	}
}

// siteOf returns a site with so many hosts.
func siteOf(hosts int) api.Site {
	s := exampleSite()
	s.Hosts = slices.Repeat(s.Hosts[:1], hosts)
	return s
}

// exampleWish is the wish of the chapter's examples.
func exampleWish() api.Wish {
	return api.Wish{Services: []api.Service{{Cores: 2, Replicas: 2}, {Cores: 1, Replicas: 2}}}
}

// exampleWorld is the world of the chapter's examples.
func exampleWorld() api.World {
	return api.World{Hosts: make([]api.HostState, 3), Replicas: []api.Replica{{Service: 0, Host: 0}, {Service: 0, Host: 2}, {Service: 1, Host: 0}}}
}

// leastWish is a wish with as little as possible of everything.
func leastWish() api.Wish { return api.Wish{Services: []api.Service{{Cores: 1}}} }

// greatestWish is a wish with as much as possible of everything.
func greatestWish() api.Wish {
	w := api.Wish{Services: slices.Repeat([]api.Service{{Cores: 1000, Replicas: 3, Least: 3, Domain: api.DomainLoop, Spread: 24, Firmware: 1000000}}, 8)}
	for i := range w.Services {
		for other := range w.Services {
			if other != i {
				w.Services[i].Apart = append(w.Services[i].Apart, other)
				w.Services[i].Near = append(w.Services[i].Near, api.Near{Service: other, Latency: 1000000})
			}
		}
	}
	return w
}

// mixedWish is a wish whose services have little in common.
func mixedWish() api.Wish {
	return api.Wish{Services: []api.Service{
		{Cores: 3, Replicas: 5, Least: 2, Domain: api.DomainRack, Spread: 1, Apart: []int{1, 3}, Near: []api.Near{{Service: 2, Latency: 7}}, Firmware: 4},
		{Cores: 1, Replicas: 0, Apart: []int{0}},
		{Cores: 1000, Replicas: 9, Least: 9, Domain: api.DomainHost, Spread: 24, Near: []api.Near{{Service: 0}, {Service: 1, Latency: 1000000}, {Service: 3, Latency: 1}}},
		{Cores: 20, Replicas: 6, Domain: api.DomainRow, Spread: 2, Firmware: 1000000},
	}}
}

// goodWishes are valid wishes.
func goodWishes() map[string]api.Wish {
	return map[string]api.Wish{"none": {}, "example": exampleWish(), "least": leastWish(), "greatest": greatestWish(), "mixed": mixedWish()}
}

// badWishes are wishes that are not valid, by what is wrong.
func badWishes() map[string]api.Wish {
	all := map[string]api.Wish{"nine services": {Services: slices.Repeat(leastWish().Services, 9)}}
	for name, spoil := range map[string]func(s *api.Service){
		"no cores":            func(s *api.Service) { s.Cores = 0 },
		"many replicas":       func(s *api.Service) { s.Replicas = 10 },
		"replicas below 0":    func(s *api.Service) { s.Replicas = -1 },
		"least of more":       func(s *api.Service) { s.Least = 6 },
		"firmware below 0":    func(s *api.Service) { s.Firmware = -1 },
		"no such domain":      func(s *api.Service) { s.Domain = 6 },
		"spread of no domain": func(s *api.Service) { s.Domain = api.DomainNone },
		"domain of no spread": func(s *api.Service) { s.Spread = 0 },
		"apart from itself":   func(s *api.Service) { s.Apart = []int{0, 1} },
		"apart twice":         func(s *api.Service) { s.Apart = []int{1, 1} },
		"apart from nothing":  func(s *api.Service) { s.Apart = []int{1, 4} },
		"near itself":         func(s *api.Service) { s.Near = []api.Near{{Service: 0}} },
		"near in disorder":    func(s *api.Service) { s.Near = []api.Near{{Service: 2}, {Service: 1}} },
		"near nothing":        func(s *api.Service) { s.Near = []api.Near{{Service: -1}} },
		"latency below 0":     func(s *api.Service) { s.Near[0].Latency = -1 },
	} {
		w := mixedWish()
		spoil(&w.Services[0])
		all[name] = w
	}
	return all
}

// bounded is a number that has to be from least to most.
type bounded struct {
	name        string
	at          *int
	least, most int
}

// numbersOf returns the numbers of a wish, but not those of Apart and Near that name services.
func numbersOf(w *api.Wish) []bounded {
	free := 24 // replicas that no service has
	for _, s := range w.Services {
		free -= s.Replicas
	}
	var all []bounded
	for i := range w.Services {
		s := &w.Services[i]
		spread := bounded{"Spread", &s.Spread, 1, 24}
		if s.Domain == api.DomainNone {
			spread.least, spread.most = 0, 0
		}
		all = append(all, bounded{"Cores", &s.Cores, 1, 1000}, bounded{"Replicas", &s.Replicas, max(s.Least, 0), s.Replicas + free},
			bounded{"Least", &s.Least, 0, s.Replicas}, bounded{"Firmware", &s.Firmware, 0, 1000000}, spread)
		for j := range s.Near {
			all = append(all, bounded{"Latency", &s.Near[j].Latency, 0, 1000000})
		}
	}
	return all
}

// isValidWish reads the chapter a second time: no number of a wish is out of its range, and each of its lists is what is left of all other services, in order, when those that it does not name are left out.
func isValidWish(w api.Wish) bool {
	for _, n := range numbersOf(&w) {
		if *n.at < n.least || *n.at > n.most {
			return false
		}
	}
	for i, s := range w.Services {
		var near, others []int
		for _, n := range s.Near {
			near = append(near, n.Service)
		}
		for other := range w.Services {
			if other != i {
				others = append(others, other)
			}
		}
		for _, l := range [][]int{s.Apart, near} {
			isMissing := func(other int) bool { return !slices.Contains(l, other) }
			if !slices.Equal(l, slices.DeleteFunc(slices.Clone(others), isMissing)) {
				return false
			}
		}
		if s.Domain > api.DomainLoop {
			return false
		}
	}
	return len(w.Services) <= 8
}

// pairs returns all replicas of so many services on so many hosts, by service, then by host.
func pairs(services, hosts int) []api.Replica {
	var l []api.Replica
	for service := range services {
		for host := range hosts {
			l = append(l, api.Replica{Service: service, Host: host})
		}
	}
	return l
}

// areValid reads the chapter a second time: replicas are valid if they are what is left of all pairs of services and hosts, in order, when those that are not among them are left out.
func areValid(replicas []api.Replica, services, hosts int) bool {
	isMissing := func(r api.Replica) bool { return !slices.Contains(replicas, r) }
	return len(replicas) <= 24 && slices.Equal(replicas, slices.DeleteFunc(pairs(services, hosts), isMissing))
}

// shortLists returns all lists of at most so many of the elements.
func shortLists[Element any](elements []Element, most int) [][]Element {
	all := [][]Element{nil}
	for from := 0; most > 0; most-- {
		to := len(all)
		for _, l := range all[from:to] {
			for _, e := range elements {
				all = append(all, append(slices.Clone(l), e))
			}
		}
		from = to
	}
	return all
}

// outside are numbers that are not from least to most.
func outside(least, most int) []int {
	return []int{least - 1, least - 2, most + 1, most + 2, most + 1<<32, -1 << 32, math.MaxInt, math.MaxInt - 1, math.MinInt, math.MinInt + 1}
}

// randomWish returns a valid wish.
func randomWish(r *rand.Rand) api.Wish {
	w := api.Wish{Services: make([]api.Service, r.Intn(9))}
	free := 24
	for i := range w.Services {
		s := &w.Services[i]
		s.Cores, s.Replicas, s.Firmware = 1+r.Intn(1000), r.Intn(min(free, 8)+1), r.Intn(1000001)
		s.Least = r.Intn(s.Replicas + 1)
		if s.Domain = api.Domain(r.Intn(6)); s.Domain != api.DomainNone {
			s.Spread = 1 + r.Intn(24)
		}
		for other := range w.Services {
			if other != i && r.Intn(3) == 0 {
				s.Apart = append(s.Apart, other)
			}
			if other != i && r.Intn(3) == 0 {
				s.Near = append(s.Near, api.Near{Service: other, Latency: r.Intn(1000001)})
			}
		}
		free -= s.Replicas
	}
	return w
}

// randomStates returns states of so many hosts that a valid world may have.
func randomStates(r *rand.Rand, hosts int) []api.HostState {
	l := make([]api.HostState, hosts)
	for i := range l {
		l[i] = api.HostState{Phase: api.Phase(r.Intn(5)), Firmware: r.Intn(1000001)}
	}
	return l
}

// randomWorld returns a valid world for so many services and hosts.
func randomWorld(r *rand.Rand, services, hosts int) api.World {
	all := pairs(services, hosts)
	for many := r.Intn(min(24, len(all)) + 1); len(all) > many; {
		i := r.Intn(len(all))
		all = slices.Delete(all, i, i+1)
	}
	return api.World{Hosts: randomStates(r, hosts), Replicas: all}
}

// wild are numbers of services and hosts that a world may have, valid or not.
func wild() []int {
	return []int{math.MinInt, -1 << 32, -2, -1, 0, 1, 2, 3, 7, 8, 15, 16, 1 << 32, math.MaxInt}
}

// wildReplicas returns so many replicas, in any order and with any numbers.
func wildReplicas(r *rand.Rand, many int) []api.Replica {
	numbers := wild()
	l := make([]api.Replica, many)
	for i := range l {
		l[i] = api.Replica{Service: numbers[r.Intn(len(numbers))], Host: numbers[r.Intn(len(numbers))]}
	}
	return l
}

// less reports whether a replica belongs before another one.
func less(a, b api.Replica) bool {
	return a.Service < b.Service || a.Service == b.Service && a.Host < b.Host
}

// inOrder returns replicas in their order, each of them once.
func inOrder(replicas []api.Replica) []api.Replica {
	var l []api.Replica
	for _, r := range replicas {
		place := 0
		for place < len(l) && less(l[place], r) {
			place++
		}
		if place == len(l) || l[place] != r {
			l = slices.Insert(l, place, r)
		}
	}
	return l
}

// someReplicas are replicas that are strictly ascending, most of which no valid world has.
func someReplicas() [][]api.Replica {
	all := [][]api.Replica{nil, exampleWorld().Replicas, pairs(3, 8), pairs(1, 23), pairs(5, 5), pairs(100, 100)}
	r := rand.New(rand.NewSource(21))
	for many := range 40 {
		all = append(all, inOrder(wildReplicas(r, many)))
	}
	return all
}

// disorders are replicas that are not strictly ascending.
func disorders() [][]api.Replica {
	return [][]api.Replica{
		{{}, {}},
		{{Host: 1}, {Host: 0}},
		{{Service: 1}, {Service: 0}},
		{{Service: 1, Host: 0}, {Service: 0, Host: 1}},
		{{Service: 0, Host: 0}, {Service: 2, Host: 0}, {Service: 1, Host: 3}},
		{{Service: 0, Host: -1}, {Service: 0, Host: 5}, {Service: 0, Host: 5}},
		append(pairs(4, 6), api.Replica{Service: 3, Host: 5}),
		append(pairs(4, 6), api.Replica{Service: 3, Host: 4}),
		append([]api.Replica{{Service: 0, Host: 1}}, pairs(5, 6)...),
		slices.Repeat(pairs(1, 2), 1<<16),
	}
}

// copyOf returns a world that shares no memory with another one, and has room behind its lists.
func copyOf(w api.World) api.World {
	w.Hosts = append(slices.Clone(w.Hosts), api.HostState{Firmware: 77})[:len(w.Hosts)]
	w.Replicas = append(slices.Clone(w.Replicas), api.Replica{Host: 77})[:len(w.Replicas)]
	return w
}

// checkUnspoilt checks that a world that copyOf returned is still the same as the other one, with its room.
func checkUnspoilt(t *testing.T, w, as api.World) {
	t.Helper()
	if !slices.Equal(w.Hosts[:len(as.Hosts)+1], append(slices.Clone(as.Hosts), api.HostState{Firmware: 77})) ||
		!slices.Equal(w.Replicas[:len(as.Replicas)+1], append(slices.Clone(as.Replicas), api.Replica{Host: 77})) {
		t.Errorf("the world %v was changed to %v", as, w)
	}
}

// spoil changes all memory of a world that was returned, also behind its lists.
func spoil(w api.World) {
	for i := range w.Hosts[:cap(w.Hosts)] {
		w.Hosts[:cap(w.Hosts)][i] = api.HostState{Phase: 99, Firmware: 7777}
	}
	for i := range w.Replicas[:cap(w.Replicas)] {
		w.Replicas[:cap(w.Replicas)][i] = api.Replica{Service: 7777, Host: 7777}
	}
}

// spoilHosts changes all memory of a list of hosts that was returned, also behind the list.
func spoilHosts(l []int) {
	for i := range l[:cap(l)] {
		l[:cap(l)][i] = 7777
	}
}

// areSame reports whether two worlds have the same lists, by element.
func areSame(a, b api.World) bool {
	if len(a.Hosts) != len(b.Hosts) || len(a.Replicas) != len(b.Replicas) {
		return false
	}
	for i, h := range a.Hosts {
		if h != b.Hosts[i] {
			return false
		}
	}
	for i, r := range a.Replicas {
		if r != b.Replicas[i] {
			return false
		}
	}
	return true
}

func checkWish(t *testing.T, name string, wish api.Wish, want bool) {
	t.Helper()
	if world.ValidWish(wish) != want {
		t.Errorf("%s: ValidWish(%v) is %t, want %t", name, wish, !want, want)
	}
}

func checkValid(t *testing.T, name string, s api.Site, wish api.Wish, w api.World, want bool) {
	t.Helper()
	if world.Valid(s, wish, w) != want {
		t.Errorf("%s: Valid of %d hosts, %v and %v is %t, want %t", name, len(s.Hosts), wish, w, !want, want)
	}
}

// checkWorld checks what a function returned; a world is returned only without an error.
func checkWorld(t *testing.T, name string, got api.World, e api.Errno, want api.World, wantE api.Errno) {
	t.Helper()
	if !areSame(got, want) || e != wantE {
		t.Errorf("%s is %v, %d, want %v, %d", name, got, e, want, wantE)
	}
}

func checkStart(t *testing.T, w api.World, r api.Replica, want api.World, wantE api.Errno) {
	t.Helper()
	got, e := world.Start(w, r)
	checkWorld(t, "Start", got, e, want, wantE)
}

func checkStop(t *testing.T, w api.World, r api.Replica, want api.World, wantE api.Errno) {
	t.Helper()
	got, e := world.Stop(w, r)
	checkWorld(t, "Stop", got, e, want, wantE)
}

func checkSet(t *testing.T, w api.World, host int, h api.HostState, want api.World, wantE api.Errno) {
	t.Helper()
	got, e := world.Set(w, host, h)
	checkWorld(t, "Set", got, e, want, wantE)
}
