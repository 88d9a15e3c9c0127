package power_test

import (
	"math/rand"
	"slices"
	"testing"

	"majordomo/api"
	"majordomo/power"
)

// P14.4: the consequences.

// sum returns the sum of what a load has for the first so many numbers.
func sum(many int, of func(n int) int) int {
	total := 0
	for n := range many {
		total += of(n)
	}
	return total
}

// limited returns the sum over all feeds of the lesser one of the limit and what their breakers carry.
func limited(x scene) int {
	onFeed := func(f int) int {
		return sum(len(x.site.Breakers), func(b int) int {
			if x.site.Breakers[b].Feed != f {
				return 0
			}
			return min(x.site.Breakers[b].Limit, power.OfBreaker(x.site, x.wish, x.world, b))
		})
	}
	return sum(len(x.site.Feeds), func(f int) int { return min(x.site.Feeds[f].Limit, onFeed(f)) })
}

func TestCarriedIsSumOfFeeds(t *testing.T) {
	for _, x := range someScenes(7, 2000) {
		checkCarried(t, x, limited(x))
	}
}

func TestAllIsCarriedIfLimitsAreKept(t *testing.T) {
	kept := 0
	for _, x := range someScenes(8, 3000) {
		all := sum(len(x.site.Hosts), func(host int) int { return power.Watts(x.site, x.wish, x.world, host) })
		isKept := true
		for b := range x.site.Breakers {
			isKept = isKept && power.OfBreaker(x.site, x.wish, x.world, b) <= x.site.Breakers[b].Limit
		}
		for f := range x.site.Feeds {
			isKept = isKept && power.OfFeed(x.site, x.wish, x.world, f) <= x.site.Feeds[f].Limit
		}
		if isKept {
			kept++
		}
		if carried := power.Carried(x.site, x.wish, x.world); carried > all || (carried == all) != isKept {
			t.Errorf("%v: %d of %d is carried, all limits are kept: %t", x, carried, all, isKept)
		}
	}
	if kept < 100 || kept > 2900 {
		t.Errorf("the limits of %d scenes are kept", kept)
	}
}

func TestBorneForEver(t *testing.T) {
	for _, x := range someScenes(9, 1000) {
		for b := range x.site.Breakers {
			isKept := power.OfBreaker(x.site, x.wish, x.world, b) <= x.site.Breakers[b].Limit
			if ticks := power.Bears(x.site, x.wish, x.world, b); (ticks == -1) != isKept || ticks < -1 {
				t.Errorf("%v: Bears(%d) is %d, the limit is kept: %t", x, b, ticks, isKept)
			}
		}
	}
}

// All racks, all breakers and all feeds have the load of all hosts together.
func TestSumsOfLoads(t *testing.T) {
	for _, x := range someScenes(10, 500) {
		s := x.site
		hosts := sum(len(s.Hosts), func(n int) int { return power.Watts(s, x.wish, x.world, n) })
		racks := sum(len(s.Racks), func(n int) int { return power.OfRack(s, x.wish, x.world, n) })
		breakers := sum(len(s.Breakers), func(n int) int { return power.OfBreaker(s, x.wish, x.world, n) })
		feeds := sum(len(s.Feeds), func(n int) int { return power.OfFeed(s, x.wish, x.world, n) })
		if racks != hosts || breakers != hosts || feeds != hosts {
			t.Errorf("%v: hosts have %d, racks %d, breakers %d, feeds %d", x, hosts, racks, breakers, feeds)
		}
	}
}

// Loops, switches, links, rows and firmware do not matter, nor what a service asks for besides its cores.
func TestWhatDoesNotMatter(t *testing.T) {
	r := rand.New(rand.NewSource(11))
	for _, x := range someScenes(12, 300) {
		want, net := loadsOf(x), netOf(x)
		carried := limited(x)
		x.site.Switches = 2
		x.site.Links = []api.Link{{A: 0, B: 1, Latency: 5}}
		x.site.Loops = []api.Loop{{Carry: 7}, {Carry: 1000000, Delay: 100}}
		for i := range x.site.Racks {
			rack := &x.site.Racks[i]
			rack.Row, rack.Loop, rack.Switch = r.Intn(4), r.Intn(2), r.Intn(2)
		}
		for i := range x.world.Hosts {
			x.world.Hosts[i].Firmware = r.Intn(1000001)
			x.site.Hosts[i].Cores = 1 + r.Intn(1000)
		}
		for i := range x.wish.Services {
			service := &x.wish.Services[i]
			service.Replicas, service.Firmware = r.Intn(4), r.Intn(9)
			service.Domain, service.Spread = api.DomainRack, 1
		}
		checkAll(t, x, want)
		checkNet(t, x, net)
		checkCarried(t, x, carried)
	}
}

// DOC.md, rules 2 to 5: nil and empty lists are the same, arguments stay as they are, results share no memory, equal arguments give equal results.

func TestNilAndEmpty(t *testing.T) {
	x := example()
	x.site.Links = []api.Link{}
	x.wish.Services[0].Apart, x.wish.Services[0].Near = []int{}, []api.Near{}
	checkAll(t, x, loadsOf(example()))
	checkNet(t, x, netOf(example()))
	for _, replicas := range [][]api.Replica{nil, {}} {
		for _, services := range [][]api.Service{nil, {}} {
			x.world.Replicas, x.wish.Services = replicas, services
			checkAll(t, x, loads{[]int{100, 100}, []int{100, 100}, []int{100, 100}, []int{200}})
			checkCarried(t, x, 200)
			checkBears(t, x, 1, -1)
		}
	}
	x = scene{
		api.Site{Feeds: []api.Feed{}, Breakers: []api.Breaker{}, Loops: []api.Loop{}, Racks: []api.Rack{}, Links: []api.Link{}, Hosts: []api.Host{}},
		api.Wish{Services: []api.Service{}},
		api.World{Hosts: []api.HostState{}, Replicas: []api.Replica{}},
	}
	checkNet(t, x, api.Net{})
	checkCarried(t, x, 0)
	checkWatts(t, x, 0, 0)
	checkBears(t, x, 0, 0)
}

// roomy returns a list with room behind its elements, filled with one of them.
func roomy[Element any](l []Element, filler Element) []Element {
	return append(slices.Clone(l), filler, filler)[:len(l)]
}

// isUnspoilt reports whether a list that roomy returned is as it was, with its room.
func isUnspoilt[Element comparable](l, as []Element, filler Element) bool {
	return slices.Equal(l[:len(as)+2], append(slices.Clone(as), filler, filler))
}

// callAll calls all functions, and spoils what they return.
func callAll(x scene) {
	for n := -1; n < 9; n++ {
		power.Watts(x.site, x.wish, x.world, n)
		power.OfRack(x.site, x.wish, x.world, n)
		power.OfBreaker(x.site, x.wish, x.world, n)
		power.OfFeed(x.site, x.wish, x.world, n)
		power.Bears(x.site, x.wish, x.world, n)
	}
	power.Carried(x.site, x.wish, x.world)
	arcs := power.Net(x.site, x.wish, x.world).Arcs
	for i := range arcs[:cap(arcs)] {
		arcs[:cap(arcs)][i] = api.Arc{From: 7777, To: 7777, Cap: 7777}
	}
}

func TestMemory(t *testing.T) {
	all := someScenes(13, 50)
	for _, x := range misfits() {
		all = append(all, x)
	}
	for _, x := range all {
		h := x // what is handed in
		h.site.Feeds = roomy(x.site.Feeds, api.Feed{Limit: 77})
		h.site.Breakers = roomy(x.site.Breakers, api.Breaker{Limit: 77})
		h.site.Racks = roomy(x.site.Racks, api.Rack{Row: 77})
		h.site.Hosts = roomy(x.site.Hosts, api.Host{Idle: 77})
		h.world.Hosts = roomy(x.world.Hosts, api.HostState{Firmware: 77})
		h.world.Replicas = roomy(x.world.Replicas, api.Replica{Host: 77})
		want := power.Net(x.site, x.wish, x.world)
		callAll(h)
		if !isUnspoilt(h.site.Feeds, x.site.Feeds, api.Feed{Limit: 77}) || !isUnspoilt(h.site.Breakers, x.site.Breakers, api.Breaker{Limit: 77}) ||
			!isUnspoilt(h.site.Racks, x.site.Racks, api.Rack{Row: 77}) || !isUnspoilt(h.site.Hosts, x.site.Hosts, api.Host{Idle: 77}) ||
			!isUnspoilt(h.world.Hosts, x.world.Hosts, api.HostState{Firmware: 77}) || !isUnspoilt(h.world.Replicas, x.world.Replicas, api.Replica{Host: 77}) {
			t.Errorf("%v was changed to %v", x, h)
		}
		checkNet(t, h, want)
	}
}
