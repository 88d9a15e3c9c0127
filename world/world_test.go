package world_test

import (
	"math"
	"math/rand"
	"slices"
	"testing"

	"majordomo/api"
	"majordomo/world"
)

// P13.1: Valid (ValidWish is in wish_test.go).

func TestValidWorlds(t *testing.T) {
	checkValid(t, "example", exampleSite(), exampleWish(), exampleWorld(), true)
	checkValid(t, "nothing runs", exampleSite(), exampleWish(), api.World{Hosts: make([]api.HostState, 3)}, true)
	checkValid(t, "no services", exampleSite(), api.Wish{}, api.World{Hosts: make([]api.HostState, 3)}, true)
	checkValid(t, "one host", siteOf(1), leastWish(), api.World{Hosts: make([]api.HostState, 1), Replicas: make([]api.Replica, 1)}, true)
	greatest := api.World{Hosts: slices.Repeat([]api.HostState{{Phase: api.HostBroken, Firmware: 1000000}}, 16), Replicas: pairs(8, 16)[104:]}
	checkValid(t, "greatest", siteOf(16), greatestWish(), greatest, true)
}

// A world may have more or fewer replicas than are wished for, on hosts of any phase.
func TestValidWorldsThatDoNotFulfilTheWish(t *testing.T) {
	states := []api.HostState{{Phase: api.HostBroken}, {Phase: api.HostEmpty}, {Phase: api.HostTesting}}
	wish := api.Wish{Services: []api.Service{{Cores: 1000, Firmware: 9, Apart: []int{1}}, {Cores: 1, Replicas: 24, Least: 24, Domain: api.DomainHost, Spread: 1}}}
	for _, l := range [][]api.Replica{nil, pairs(1, 3), pairs(2, 3)} {
		checkValid(t, "another wish", exampleSite(), wish, api.World{Hosts: states, Replicas: l}, true)
	}
}

func TestWorldsOfInvalidSites(t *testing.T) {
	for name, change := range map[string]func(s *api.Site){
		"no switches": func(s *api.Site) { s.Switches = 0 },
		"no rack":     func(s *api.Site) { s.Hosts[1].Rack = 2 },
		"no feeds":    func(s *api.Site) { s.Feeds = nil },
	} {
		s := exampleSite()
		change(&s)
		checkValid(t, name, s, exampleWish(), exampleWorld(), false)
	}
	checkValid(t, "no site", api.Site{}, api.Wish{}, api.World{}, false)
	checkValid(t, "seventeen hosts", siteOf(17), api.Wish{}, api.World{Hosts: make([]api.HostState, 17)}, false)
}

func TestWorldsOfInvalidWishes(t *testing.T) {
	for name, wish := range badWishes() {
		checkValid(t, name, exampleSite(), wish, exampleWorld(), false)
		checkValid(t, name, exampleSite(), wish, api.World{Hosts: make([]api.HostState, 3)}, false)
	}
}

func TestNumbersOfHosts(t *testing.T) {
	for has := 1; has <= 16; has++ {
		for hosts := range 20 {
			w := api.World{Hosts: make([]api.HostState, hosts)}
			checkValid(t, "hosts", siteOf(has), exampleWish(), w, hosts == has)
		}
	}
}

func TestStatesOfHosts(t *testing.T) {
	for host := range 3 {
		w := exampleWorld()
		for phase := range 256 {
			w.Hosts[host] = api.HostState{Phase: api.Phase(phase)}
			checkValid(t, "a phase", exampleSite(), exampleWish(), w, phase <= 4)
		}
		for _, good := range []int{0, 1, 999999, 1000000} {
			w.Hosts[host] = api.HostState{Firmware: good}
			checkValid(t, "a firmware", exampleSite(), exampleWish(), w, true)
		}
		for _, bad := range outside(0, 1000000) {
			w.Hosts[host] = api.HostState{Firmware: bad}
			checkValid(t, "a firmware", exampleSite(), exampleWish(), w, false)
		}
	}
}

func TestNumbersOfReplicas(t *testing.T) {
	r := rand.New(rand.NewSource(2))
	for many := range 60 {
		l := pairs(8, 16)
		for len(l) > many {
			i := r.Intn(len(l))
			l = slices.Delete(l, i, i+1)
		}
		w := api.World{Hosts: make([]api.HostState, 16), Replicas: l}
		checkValid(t, "replicas", siteOf(16), greatestWish(), w, many <= 24)
	}
}

func TestReplicasOfNothing(t *testing.T) {
	for services := range 9 {
		wish := api.Wish{Services: slices.Repeat(leastWish().Services, services)}
		for _, service := range wild() {
			for _, host := range wild() {
				w := api.World{Hosts: make([]api.HostState, 3), Replicas: []api.Replica{{Service: service, Host: host}}}
				want := service >= 0 && service < services && host >= 0 && host < 3
				checkValid(t, "a replica", exampleSite(), wish, w, want)
			}
		}
	}
}

func TestShortListsOfReplicas(t *testing.T) {
	var some []api.Replica // also of services and hosts that there are not
	for service := -1; service <= 2; service++ {
		for host := -1; host <= 3; host++ {
			some = append(some, api.Replica{Service: service, Host: host})
		}
	}
	valid := 0
	for _, l := range shortLists(some, 3) {
		want := areValid(l, 2, 3)
		if want {
			valid++
		}
		checkValid(t, "replicas", exampleSite(), exampleWish(), api.World{Hosts: make([]api.HostState, 3), Replicas: l}, want)
	}
	if valid != 1+6+15+20 {
		t.Errorf("%d lists of replicas are valid", valid)
	}
}

func TestRandomWorlds(t *testing.T) {
	r := rand.New(rand.NewSource(13))
	valid := 0
	for range 20000 {
		wish, hosts := randomWish(r), 1+r.Intn(16)
		services := len(wish.Services)
		w := randomWorld(r, services, hosts)
		checkValid(t, "a random world", siteOf(hosts), wish, w, true)
		if many := len(w.Replicas); many > 0 && r.Intn(2) == 0 {
			x := &w.Replicas[r.Intn(many)]
			*[]*int{&x.Service, &x.Host}[r.Intn(2)] = r.Intn(10) - 1
		}
		if r.Intn(8) == 0 {
			w.Replicas = append(w.Replicas, api.Replica{Service: services - 1, Host: r.Intn(hosts)})
		}
		want := areValid(w.Replicas, services, hosts)
		if want {
			valid++
		}
		checkValid(t, "a changed world", siteOf(hosts), wish, w, want)
	}
	if valid < 5000 || valid > 17000 {
		t.Errorf("%d of the changed worlds are valid", valid)
	}
}

// P13.2: Runs, Where, Has, Used.

func checkService(t *testing.T, w api.World, service int, hosts []int) {
	t.Helper()
	if n := world.Runs(w, service); n != len(hosts) {
		t.Errorf("%v: Runs(%d) = %d, want %d", w.Replicas, service, n, len(hosts))
	}
	if l := world.Where(w, service); !slices.Equal(l, hosts) {
		t.Errorf("%v: Where(%d) = %v, want %v", w.Replicas, service, l, hosts)
	}
}

func checkUsed(t *testing.T, wish api.Wish, w api.World, host, want int) {
	t.Helper()
	if cores := world.Used(wish, w, host); cores != want {
		t.Errorf("%v, %v: Used(%d) = %d, want %d", wish, w.Replicas, host, cores, want)
	}
}

func TestExamplesOfWhatRuns(t *testing.T) {
	w := exampleWorld()
	checkService(t, w, 0, []int{0, 2})
	checkService(t, w, 1, []int{0})
	checkUsed(t, exampleWish(), w, 0, 3)
	checkUsed(t, exampleWish(), w, 1, 0)
	checkUsed(t, exampleWish(), w, 2, 2)
	for _, r := range pairs(4, 4) {
		if has := world.Has(w, r); has != slices.Contains([]api.Replica{{Service: 0, Host: 0}, {Service: 0, Host: 2}, {Service: 1, Host: 0}}, r) {
			t.Errorf("Has(%v) is %t", r, has)
		}
	}
}

func TestNothingRuns(t *testing.T) {
	for _, w := range []api.World{{}, {Replicas: []api.Replica{}}, {Hosts: make([]api.HostState, 3)}} {
		for _, n := range wild() {
			checkService(t, w, n, nil)
			checkUsed(t, exampleWish(), w, n, 0)
			if world.Has(w, api.Replica{Service: n, Host: n}) || world.Has(w, api.Replica{}) {
				t.Errorf("Has(%d) of nothing", n)
			}
		}
	}
}

func TestNumbersThatNameNothing(t *testing.T) {
	w := exampleWorld()
	for _, n := range outside(0, 2) {
		checkService(t, w, n, nil)
		checkUsed(t, exampleWish(), w, n, 0)
		for _, r := range []api.Replica{{Service: n}, {Host: n}, {Service: n, Host: n}} {
			if world.Has(w, r) {
				t.Errorf("Has(%v)", r)
			}
		}
	}
}

// In any world the replicas of a service stand in any order, some of them more than once, among those of others.
func TestWhatRunsInAnyWorld(t *testing.T) {
	r := rand.New(rand.NewSource(6))
	numbers := wild()
	for range 3000 {
		var w api.World
		hosts := map[int][]int{} // by service
		cores := map[int]int{}   // by host
		wish := randomWish(r)
		for range r.Intn(40) {
			service, host := numbers[r.Intn(len(numbers))], numbers[r.Intn(len(numbers))]
			w.Replicas = append(w.Replicas, api.Replica{Service: service, Host: host})
			hosts[service] = append(hosts[service], host)
			for i, s := range wish.Services {
				if i == service {
					cores[host] += s.Cores
				}
			}
		}
		for _, n := range numbers {
			checkService(t, w, n, hosts[n])
			checkUsed(t, wish, w, n, cores[n])
			for _, m := range numbers {
				if has := world.Has(w, api.Replica{Service: n, Host: m}); has != slices.Contains(hosts[n], m) {
					t.Errorf("%v: Has(%d, %d) is %t", w.Replicas, n, m, has)
				}
			}
		}
	}
}

// Used takes the cores of any wish, valid or not.
func TestUsedOfAnyWish(t *testing.T) {
	w := api.World{Replicas: []api.Replica{{Service: 0}, {Service: 1}, {Service: 1}, {Service: 2}, {Service: 9, Host: 1}, {Service: 9, Host: 1}, {Service: 10, Host: 1}}}
	wish := api.Wish{Services: []api.Service{{Cores: -5}, {Cores: 1 << 40, Replicas: -1}, {Cores: 0}, {}, {}, {}, {}, {}, {}, {Cores: 3}}}
	checkUsed(t, wish, w, 0, 1<<41-5)
	checkUsed(t, wish, w, 1, 6)
	checkUsed(t, api.Wish{}, w, 0, 0)
	wish.Services[1].Cores = math.MaxInt
	checkUsed(t, wish, w, 0, -7)
}

// P13.3: Start, Stop, Set.

func TestExamplesOfStart(t *testing.T) {
	w := exampleWorld()
	checkStart(t, w, api.Replica{Service: 1, Host: 0}, api.World{}, api.ErrDuplicate)
	want := api.World{Hosts: w.Hosts, Replicas: []api.Replica{{Service: 0, Host: 0}, {Service: 0, Host: 1}, {Service: 0, Host: 2}, {Service: 1, Host: 0}}}
	checkStart(t, w, api.Replica{Service: 0, Host: 1}, want, api.OK)
}

func TestExamplesOfStop(t *testing.T) {
	w := exampleWorld()
	want := api.World{Hosts: w.Hosts, Replicas: []api.Replica{{Service: 0, Host: 0}, {Service: 1, Host: 0}}}
	checkStop(t, w, api.Replica{Service: 0, Host: 2}, want, api.OK)
	checkStop(t, w, api.Replica{Service: 1, Host: 1}, api.World{}, api.ErrNone)
}

// Nothing but the order of the replicas is asked of a world: not that there are such hosts, or not too many of them.
func TestStartInAnyPlace(t *testing.T) {
	r := rand.New(rand.NewSource(7))
	states := slices.Repeat([]api.HostState{{Phase: 9, Firmware: -3}}, 30)
	for _, l := range someReplicas() {
		w := api.World{Hosts: states, Replicas: l}
		for _, x := range slices.Concat(l[:min(len(l), 50)], wildReplicas(r, 50), pairs(3, 10)) {
			switch {
			case x.Service < 0 || x.Host < 0:
				checkStart(t, w, x, api.World{}, api.ErrArg)
			case slices.Contains(l, x):
				checkStart(t, w, x, api.World{}, api.ErrDuplicate)
			case len(l) > 23:
				checkStart(t, w, x, api.World{}, api.ErrFull)
			default:
				checkStart(t, w, x, api.World{Hosts: states, Replicas: inOrder(append(slices.Clone(l), x))}, api.OK)
			}
		}
	}
}

func TestStopInAnyPlace(t *testing.T) {
	r := rand.New(rand.NewSource(8))
	states := slices.Repeat([]api.HostState{{Phase: 9, Firmware: -3}}, 30)
	for _, l := range someReplicas() {
		w := api.World{Hosts: states, Replicas: l}
		for _, x := range slices.Concat(l[:min(len(l), 50)], wildReplicas(r, 50), pairs(3, 10)) {
			i := slices.Index(l, x)
			if i < 0 {
				checkStop(t, w, x, api.World{}, api.ErrNone)
				continue
			}
			checkStop(t, w, x, api.World{Hosts: states, Replicas: slices.Delete(slices.Clone(l), i, i+1)}, api.OK)
		}
	}
}

func TestStartOfTheLast(t *testing.T) {
	for many := range 40 {
		l := pairs(1, many)
		x, want, wantE := api.Replica{Service: 1}, api.World{}, api.ErrFull
		if many < 24 {
			want, wantE = api.World{Replicas: append(pairs(1, many), x)}, api.OK
		}
		checkStart(t, api.World{Replicas: l}, x, want, wantE)
	}
	checkStart(t, api.World{}, api.Replica{Service: math.MaxInt, Host: math.MaxInt}, api.World{Replicas: []api.Replica{{Service: math.MaxInt, Host: math.MaxInt}}}, api.OK)
}

func TestStopOfTheLast(t *testing.T) {
	checkStop(t, api.World{Replicas: pairs(1, 1)}, api.Replica{}, api.World{}, api.OK)
	checkStop(t, api.World{}, api.Replica{}, api.World{}, api.ErrNone)
	checkStop(t, api.World{Replicas: pairs(1, 1<<16)}, api.Replica{Host: 1<<16 - 1}, api.World{Replicas: pairs(1, 1<<16-1)}, api.OK)
}

// Stop asks nothing of the numbers of a replica, but that it is there.
func TestStopOfOddReplicas(t *testing.T) {
	l := []api.Replica{{Service: math.MinInt, Host: math.MinInt}, {Service: -1, Host: 3}, {Service: 0, Host: -1}, {Service: math.MaxInt, Host: math.MaxInt}}
	for i, x := range l {
		checkStop(t, api.World{Replicas: l}, x, api.World{Replicas: slices.Delete(slices.Clone(l), i, i+1)}, api.OK)
	}
	checkStop(t, api.World{Replicas: l}, api.Replica{Service: -1, Host: -1}, api.World{}, api.ErrNone)
}

func TestSetOfAnyHost(t *testing.T) {
	r := rand.New(rand.NewSource(9))
	for _, l := range someReplicas() {
		states := randomStates(r, 1+r.Intn(20))
		w := api.World{Hosts: states, Replicas: l}
		for host := range states {
			for _, h := range []api.HostState{{}, {Phase: api.HostBroken, Firmware: 1000000}, {Phase: 255, Firmware: -1}, {Firmware: math.MaxInt}, states[host]} {
				want := slices.Clone(states)
				want[host] = h
				checkSet(t, w, host, h, api.World{Hosts: want, Replicas: l}, api.OK)
			}
		}
		for _, host := range outside(0, len(states)-1) {
			checkSet(t, w, host, api.HostState{}, api.World{}, api.ErrArg)
		}
	}
	checkSet(t, api.World{}, 0, api.HostState{}, api.World{}, api.ErrArg)
}

// ErrArg is named before all other errors, ErrDuplicate before ErrFull.
func TestOrderOfErrors(t *testing.T) {
	for _, l := range disorders() {
		w := api.World{Hosts: make([]api.HostState, 2), Replicas: l}
		for _, x := range []api.Replica{{}, l[0], l[len(l)-1], {Service: 7, Host: 7}, {Service: -1}, {Host: -1}} {
			checkStart(t, w, x, api.World{}, api.ErrArg)
			checkStop(t, w, x, api.World{}, api.ErrArg)
		}
		for host := -1; host <= 2; host++ {
			checkSet(t, w, host, api.HostState{}, api.World{}, api.ErrArg)
		}
	}
	odd := []api.Replica{{Service: -1, Host: 0}, {Service: 0, Host: -1}}
	for _, l := range [][]api.Replica{odd, slices.Concat(odd, pairs(3, 8))} {
		for _, x := range odd {
			checkStart(t, api.World{Replicas: l}, x, api.World{}, api.ErrArg)
		}
	}
	for _, many := range []int{24, 25, 1 << 16} {
		w := api.World{Replicas: pairs(1, many)}
		checkStart(t, w, api.Replica{Host: -1}, api.World{}, api.ErrArg)
		checkStart(t, w, api.Replica{Host: many - 1}, api.World{}, api.ErrDuplicate)
		checkStart(t, w, api.Replica{Host: many}, api.World{}, api.ErrFull)
	}
}

// P13.4: Same.

func checkSame(t *testing.T, a, b api.World, want bool) {
	t.Helper()
	if world.Same(a, b) != want || world.Same(b, a) != want {
		t.Errorf("Same(%v, %v) is not %t both ways", a, b, want)
	}
}

func TestSame(t *testing.T) {
	for i, change := range []func(w *api.World){
		func(w *api.World) { w.Hosts = w.Hosts[:2] },
		func(w *api.World) { w.Hosts = nil },
		func(w *api.World) { w.Hosts = append(w.Hosts, api.HostState{}) },
		func(w *api.World) { w.Hosts[0].Phase = api.HostDraining },
		func(w *api.World) { w.Hosts[2].Phase = 200 },
		func(w *api.World) { w.Hosts[1].Firmware = -1 },
		func(w *api.World) { w.Hosts[2].Firmware = 1 << 40 },
		func(w *api.World) { w.Replicas = w.Replicas[:2] },
		func(w *api.World) { w.Replicas = w.Replicas[1:] },
		func(w *api.World) { w.Replicas = nil },
		func(w *api.World) { w.Replicas = append(w.Replicas, w.Replicas[2]) },
		func(w *api.World) { w.Replicas[0].Service = -1 },
		func(w *api.World) { w.Replicas[2].Host = 1 },
		func(w *api.World) { w.Replicas[0], w.Replicas[1] = w.Replicas[1], w.Replicas[0] },
	} {
		w, as := exampleWorld(), exampleWorld()
		checkSame(t, w, as, true)
		change(&w)
		if world.Same(w, as) || world.Same(as, w) {
			t.Errorf("change %d: Same is true", i)
		}
		checkSame(t, w, copyOf(w), true)
	}
}

func TestSameOfHostsInAnotherOrder(t *testing.T) {
	a := api.World{Hosts: []api.HostState{{Firmware: 1}, {Firmware: 2}}}
	b := api.World{Hosts: []api.HostState{{Firmware: 2}, {Firmware: 1}}}
	checkSame(t, a, b, false)
	checkSame(t, a, a, true)
}

func TestSameOfAnyWorlds(t *testing.T) {
	var some []api.World
	for hosts := range 3 {
		for _, l := range shortLists([]api.Replica{{Service: -1}, {Host: 1}}, 3) {
			some = append(some, api.World{Hosts: make([]api.HostState, hosts), Replicas: l})
		}
	}
	for i, a := range some {
		for j, b := range some {
			checkSame(t, a, copyOf(b), i == j)
		}
	}
}
