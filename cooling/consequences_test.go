package cooling_test

import (
	"math/rand"
	"slices"
	"testing"

	"majordomo/api"
	"majordomo/cooling"
	"majordomo/power"
)

// P15.4: the consequences.

// What a loop carries away never comes to a level; the first watt above it does, as soon as it arrives.
func TestCarriedHeatStaysAtZero(t *testing.T) {
	kept := 0
	for i, x := range someScenes(10, 400) {
		for loop, l := range x.site.Loops {
			heat := cooling.Heat(x.site, x.wish, x.world, loop)
			if heat > l.Carry {
				checkLongest(t, x, loop, 0, 0, l.Delay, api.OK)
				checkAfter(t, x, loop, 0, l.Delay+1, heat-l.Carry, api.OK)
				continue
			}
			kept++
			checkLongest(t, x, loop, 0, 0, api.MaxTicks, api.OK)
			for n := i % 50; n <= api.MaxTicks; n += 50 {
				checkAfter(t, x, loop, 0, n, 0, api.OK)
			}
		}
	}
	if kept < 100 || kept > 900 {
		t.Errorf("%d loops carry their heat", kept)
	}
}

func TestHeatAtCarry(t *testing.T) {
	for _, heat := range []int{0, 1, 2, 999, 10000} {
		for _, delay := range []int{0, 1, 100} {
			checkLongest(t, single(api.Loop{Carry: heat, Delay: delay}, heat), 0, 0, 0, api.MaxTicks, api.OK)
			checkLongest(t, single(api.Loop{Carry: heat + 1, Delay: delay}, heat), 0, 0, 0, api.MaxTicks, api.OK)
			if heat > 0 {
				checkLongest(t, single(api.Loop{Carry: heat - 1, Delay: delay}, heat), 0, 0, 0, delay, api.OK)
			}
		}
	}
}

// checkNotLower checks that no level of a loop is lower in the hotter one of two scenes.
func checkNotLower(t *testing.T, x, hotter scene, loop, start int) {
	t.Helper()
	for _, n := range []int{0, 1, 2, 5, 100, 101, 102, 1000} {
		a, e := cooling.After(x.site, x.wish, x.world, loop, start, n)
		b, f := cooling.After(hotter.site, hotter.wish, hotter.world, loop, start, n)
		if e != api.OK || f != api.OK || b < a {
			t.Errorf("After(%d, %d, %d) is %d, %d for %v, and %d, %d for the hotter %v", loop, start, n, a, e, x, b, f, hotter)
		}
	}
}

func TestGreaterHeatGivesNoLowerLevel(t *testing.T) {
	r := rand.New(rand.NewSource(11))
	for _, x := range someScenes(12, 300) {
		hotter := x
		hotter.site.Hosts = slices.Clone(x.site.Hosts)
		hotter.wish.Services = slices.Clone(x.wish.Services)
		hotter.world.Hosts = slices.Clone(x.world.Hosts)
		host := r.Intn(len(x.site.Hosts))
		hotter.site.Hosts[host].Idle = 10000
		hotter.world.Hosts[host].Phase = api.HostServing
		for i := range hotter.wish.Services {
			hotter.wish.Services[i].Cores = min(1000, hotter.wish.Services[i].Cores+r.Intn(9))
		}
		for loop, l := range x.site.Loops {
			checkNotLower(t, x, hotter, loop, r.Intn(min(3*l.Carry+10, 1000000)))
		}
	}
}

func TestGreaterHeatsGiveNoLowerLevels(t *testing.T) {
	r := rand.New(rand.NewSource(13))
	for range 2000 {
		s := example().site
		s.Loops[0] = api.Loop{Carry: r.Intn(50), Delay: r.Intn(8)}
		heats := randomHeats(r, s.Loops[0], 20)
		greater := randomHeats(r, s.Loops[0], 20)
		for i, heat := range heats {
			if i == len(greater) {
				greater = append(greater, 0)
			}
			greater[i] = max(greater[i], heat)
		}
		start := r.Intn(200)
		a, e := cooling.Course(s, 0, start, heats, 30)
		b, f := cooling.Course(s, 0, start, greater, 30)
		if e != api.OK || f != api.OK || len(a) != 31 || len(b) != 31 {
			t.Fatalf("Course of %v: %v, %d, and of %v: %v, %d", heats, a, e, greater, b, f)
		}
		for tick := range a {
			if b[tick] < a[tick] {
				t.Errorf("%v from %d: the level %d is %d with %v, and %d with %v", s.Loops[0], start, tick, a[tick], heats, b[tick], greater)
			}
		}
	}
}

// All loops have the heat of all hosts together.
func TestSumOfHeats(t *testing.T) {
	for _, x := range someScenes(14, 300) {
		sum := 0
		for loop := range x.site.Loops {
			sum += cooling.Heat(x.site, x.wish, x.world, loop)
		}
		for host := range x.site.Hosts {
			sum -= power.Watts(x.site, x.wish, x.world, host)
		}
		if sum != 0 {
			t.Errorf("%v: the loops have %d more than the hosts", x, sum)
		}
	}
}

// Feeds, breakers, switches, links, rows and firmware do not matter, nor what a service asks for besides its cores.
func TestWhatDoesNotMatter(t *testing.T) {
	r := rand.New(rand.NewSource(15))
	for _, x := range someScenes(16, 200) {
		want := heatsOf(x)
		x.site.Feeds, x.site.Switches = []api.Feed{{Limit: 5}, {Limit: 1000000}}, 2
		x.site.Breakers = []api.Breaker{{Feed: 1, Limit: 7}, {Feed: 0, Slow: 8, Fast: 9}}
		x.site.Links = []api.Link{{A: 0, B: 1, Latency: 5}}
		for i := range x.site.Racks {
			rack := &x.site.Racks[i]
			rack.Row, rack.Breaker, rack.Switch = r.Intn(4), r.Intn(2), r.Intn(2)
		}
		for i := range x.world.Hosts {
			x.world.Hosts[i].Firmware = r.Intn(1000001)
			x.site.Hosts[i].Cores = 1 + r.Intn(1000)
		}
		for i := range x.wish.Services {
			service := &x.wish.Services[i]
			service.Replicas, service.Firmware = r.Intn(4), r.Intn(9)
			service.Domain, service.Spread = api.DomainLoop, 1
		}
		for loop, heat := range want {
			l := x.site.Loops[loop]
			checkHeat(t, x, loop, heat)
			checkAfter(t, x, loop, 9, 150, levelOf(l, 9, heat, 150), api.OK)
			checkLongest(t, x, loop, 9, 5000, longest(l, 9, heat, 5000), api.OK)
		}
	}
}

// DOC.md, rules 2 to 5: nil and empty lists are the same, arguments stay as they are, results share no memory, equal arguments give equal results.

func TestNilAndEmpty(t *testing.T) {
	x := example()
	x.site.Links = []api.Link{}
	x.wish.Services[0].Apart, x.wish.Services[0].Near = []int{}, []api.Near{}
	checkHeat(t, x, 0, 400)
	checkAfter(t, x, 0, 0, 2, 150, api.OK)
	for _, replicas := range [][]api.Replica{nil, {}} {
		for _, services := range [][]api.Service{nil, {}} {
			x.world.Replicas, x.wish.Services = replicas, services
			checkHeat(t, x, 0, 200)
			checkLongest(t, x, 0, 0, 0, 1000, api.OK)
		}
	}
	for _, heats := range [][]int{nil, {}} {
		checkCourse(t, x.site, 0, 300, heats, 2, []int{300, 50, 0}, api.OK)
	}
	x = scene{
		api.Site{Feeds: []api.Feed{}, Breakers: []api.Breaker{}, Loops: []api.Loop{}, Racks: []api.Rack{}, Links: []api.Link{}, Hosts: []api.Host{}},
		api.Wish{Services: []api.Service{}},
		api.World{Hosts: []api.HostState{}, Replicas: []api.Replica{}},
	}
	checkRefused(t, x)
	checkLinear(t, x.site, 0, api.Linear{}, api.ErrArg)
	checkCourse(t, x.site, 0, 0, []int{}, 0, nil, api.ErrArg)
}

// roomy returns a list with room behind its elements, filled with one of them.
func roomy[Element any](l []Element, filler Element) []Element {
	return append(slices.Clone(l), filler, filler)[:len(l)]
}

// isUnspoilt reports whether a list that roomy returned is as it was, with its room.
func isUnspoilt[Element comparable](l, as []Element, filler Element) bool {
	return slices.Equal(l[:len(as)+2], append(slices.Clone(as), filler, filler))
}

// spoil overwrites a list, with its room.
func spoil[Element any](l []Element, with Element) {
	for i := range l[:cap(l)] {
		l[:cap(l)][i] = with
	}
}

// callAll calls all functions, and spoils what they return.
func callAll(x scene, heats []int) {
	for loop := -1; loop < 5; loop++ {
		cooling.Heat(x.site, x.wish, x.world, loop)
		line, _ := cooling.Linear(x.site, loop)
		spoil(line.Parts, api.Part{Source: 7777, Times: 7777, Delay: 7777})
		for _, n := range []int{-1, 0, 3} {
			levels, _ := cooling.Course(x.site, loop, 5, heats, n)
			spoil(levels, 7777)
			cooling.After(x.site, x.wish, x.world, loop, 5, n)
			cooling.Longest(x.site, x.wish, x.world, loop, 5, n)
		}
	}
}

func TestMemory(t *testing.T) {
	all := someScenes(17, 50)
	ofSite, ofRest := spoils()
	for _, spoils := range []map[string]func(x *scene){ofSite, ofRest} {
		for _, x := range misfits(spoils) {
			all = append(all, x)
		}
	}
	for _, x := range all {
		h := x // what is handed in
		h.site.Loops = roomy(x.site.Loops, api.Loop{Carry: 77})
		h.site.Racks = roomy(x.site.Racks, api.Rack{Row: 77})
		h.site.Hosts = roomy(x.site.Hosts, api.Host{Idle: 77})
		h.world.Hosts = roomy(x.world.Hosts, api.HostState{Firmware: 77})
		h.world.Replicas = roomy(x.world.Replicas, api.Replica{Host: 77})
		heats := roomy([]int{10, 0, 300}, 77)
		line, e := cooling.Linear(x.site, 0)
		levels, f := cooling.Course(x.site, 0, 5, []int{10, 0, 300}, 3)
		heat := cooling.Heat(x.site, x.wish, x.world, 0)
		callAll(h, heats)
		if !isUnspoilt(h.site.Loops, x.site.Loops, api.Loop{Carry: 77}) || !isUnspoilt(h.site.Racks, x.site.Racks, api.Rack{Row: 77}) || !isUnspoilt(h.site.Hosts, x.site.Hosts, api.Host{Idle: 77}) ||
			!isUnspoilt(h.world.Hosts, x.world.Hosts, api.HostState{Firmware: 77}) || !isUnspoilt(h.world.Replicas, x.world.Replicas, api.Replica{Host: 77}) || !isUnspoilt(heats, []int{10, 0, 300}, 77) {
			t.Errorf("%v was changed to %v, or the heats to %v", x, h, heats)
		}
		checkLinear(t, h.site, 0, line, e)
		checkCourse(t, h.site, 0, 5, heats, 3, levels, f)
		checkHeat(t, h, 0, heat)
	}
}
