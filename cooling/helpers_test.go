package cooling_test

import (
	"math"
	"math/rand"
	"slices"
	"testing"

	"majordomo/api"
	"majordomo/cooling"
)

// scene is a site with a wish and a world.
type scene struct {
	site  api.Site
	wish  api.Wish
	world api.World
}

// example is the scene of the chapter's examples, with a second loop that no rack has.
func example() scene {
	return scene{
		api.Site{
			Feeds:    []api.Feed{{Limit: 300}},
			Breakers: []api.Breaker{{Limit: 200}, {Limit: 200}},
			Loops:    []api.Loop{{Carry: 250, Delay: 1}, {Carry: 70, Delay: 3}},
			Racks:    []api.Rack{{Breaker: 0}, {Breaker: 1}},
			Switches: 1,
			Hosts:    []api.Host{{Rack: 0, Cores: 4, Idle: 100, PerCore: 50}, {Rack: 1, Cores: 4, Idle: 100, PerCore: 50}},
		},
		api.Wish{Services: []api.Service{{Cores: 2, Replicas: 2}}},
		api.World{Hosts: make([]api.HostState, 2), Replicas: []api.Replica{{Host: 0}, {Host: 1}}},
	}
}

// wide is a scene in which loops, racks and hosts do not stand in the order of each other; the loop 1 has no rack, and the rack 2 of the loop 3 no host.
func wide() scene {
	return scene{
		api.Site{
			Feeds:    make([]api.Feed, 2),
			Breakers: []api.Breaker{{Feed: 1}, {Feed: 0}, {Feed: 1}},
			Loops:    []api.Loop{{Carry: 10, Delay: 2}, {}, {Carry: 60}, {Carry: 7, Delay: 100}},
			Racks:    []api.Rack{{Loop: 2, Breaker: 1}, {Loop: 0, Breaker: 0}, {Loop: 3, Breaker: 1}, {Loop: 2, Breaker: 2}, {Loop: 0, Breaker: 1}},
			Switches: 1,
			Hosts: []api.Host{
				{Rack: 4, Cores: 8, Idle: 10, PerCore: 1}, {Rack: 0, Cores: 8, Idle: 20, PerCore: 3}, {Rack: 1, Cores: 1, Idle: 5, PerCore: 10}, {Rack: 3, Cores: 4, Idle: 19},
				{Rack: 0, Cores: 2, Idle: 0, PerCore: 7}, {Rack: 4, Cores: 3, Idle: 1, PerCore: 2},
			},
		},
		api.Wish{Services: []api.Service{{Cores: 2, Replicas: 3}, {Cores: 5}, {Cores: 1, Replicas: 1}}},
		api.World{
			Hosts: []api.HostState{{}, {Phase: api.HostDraining, Firmware: 3}, {Phase: api.HostEmpty}, {Phase: api.HostTesting}, {Phase: api.HostBroken}, {}},
			Replicas: []api.Replica{
				{Service: 0, Host: 1}, {Service: 0, Host: 2}, {Service: 0, Host: 4},
				{Service: 1, Host: 1}, {Service: 1, Host: 3}, {Service: 1, Host: 5},
				{Service: 2, Host: 2}, {Service: 2, Host: 5},
			},
		},
	}
}

// greatest is a scene with as much as possible of everything, all of it in the loop 3, which carries nothing.
func greatest() scene {
	return scene{
		api.Site{
			Feeds:    make([]api.Feed, 4),
			Breakers: make([]api.Breaker, 8),
			Loops:    []api.Loop{{Carry: 1000000, Delay: 100}, {}, {}, {}},
			Racks:    slices.Repeat([]api.Rack{{Loop: 3}}, 8),
			Switches: 8,
			Hosts:    slices.Repeat([]api.Host{{Rack: 7, Cores: 1000, Idle: 10000, PerCore: 1000}}, 16),
		},
		api.Wish{Services: slices.Repeat([]api.Service{{Cores: 1000, Replicas: 3}}, 8)},
		api.World{Hosts: slices.Repeat([]api.HostState{{Phase: api.HostTesting, Firmware: 1000000}}, 16), Replicas: pairs(8, 3)},
	}
}

// single returns a scene with one of everything: a host with so many watts (at most 10000), in this loop.
func single(l api.Loop, watts int) scene {
	return scene{
		site:  api.Site{Feeds: make([]api.Feed, 1), Breakers: make([]api.Breaker, 1), Loops: []api.Loop{l}, Racks: make([]api.Rack, 1), Switches: 1, Hosts: []api.Host{{Cores: 1, Idle: watts}}},
		world: api.World{Hosts: make([]api.HostState, 1)},
	}
}

// pairs returns all replicas of so many services on so many hosts, by service, then by host.
func pairs(services, hosts int) []api.Replica {
	var l []api.Replica
	for service := range services {
		for host := range hosts {
			l = append(l, api.Replica{Service: service, Host: host})
		}
	}
	return l
}

// random returns a valid scene, with heats and limits of about so much.
func random(r *rand.Rand, size int) scene {
	some := func(most int) int { return 1 + r.Intn(most) }
	x := scene{site: api.Site{Feeds: make([]api.Feed, 1), Breakers: make([]api.Breaker, 1), Loops: make([]api.Loop, some(4)), Racks: make([]api.Rack, some(8)), Switches: 1, Hosts: make([]api.Host, some(16))}}
	s := x.site
	for i := range s.Loops {
		s.Loops[i] = api.Loop{Carry: r.Intn(5*size + 1), Delay: r.Intn([]int{1, 4, 101}[r.Intn(3)])}
	}
	for i := range s.Racks {
		s.Racks[i].Loop = r.Intn(len(s.Loops))
	}
	for i := range s.Hosts {
		s.Hosts[i] = api.Host{Rack: r.Intn(len(s.Racks)), Cores: 1, Idle: r.Intn(min(size, 10000) + 1), PerCore: r.Intn(min(size, 1000) + 1)}
		x.world.Hosts = append(x.world.Hosts, api.HostState{Phase: api.Phase(r.Intn(5)), Firmware: r.Intn(3)})
	}
	for range r.Intn(9) {
		x.wish.Services = append(x.wish.Services, api.Service{Cores: some(4)})
	}
	all := pairs(len(x.wish.Services), len(s.Hosts))
	for many := r.Intn(min(24, len(all)) + 1); len(all) > many; {
		i := r.Intn(len(all))
		all = slices.Delete(all, i, i+1)
	}
	x.world.Replicas = all
	return x
}

// someScenes are valid scenes.
func someScenes(seed int64, many int) []scene {
	all := []scene{example(), wide(), greatest()}
	r := rand.New(rand.NewSource(seed))
	for i := range many {
		all = append(all, random(r, []int{3, 20, 100, 1000, 20000}[i%5]))
	}
	return all
}

// spoils are the ways to make the example no longer valid: its site, or its wish or world.
func spoils() (ofSite, ofRest map[string]func(x *scene)) {
	return map[string]func(x *scene){
		"no site":            func(x *scene) { x.site = api.Site{} },
		"no feeds":           func(x *scene) { x.site.Feeds = nil },
		"no loops":           func(x *scene) { x.site.Loops = nil },
		"too many loops":     func(x *scene) { x.site.Loops = make([]api.Loop, 5) },
		"a Carry below 0":    func(x *scene) { x.site.Loops[0].Carry = -1 },
		"a Carry too great":  func(x *scene) { x.site.Loops[1].Carry = 1000001 },
		"a Delay below 0":    func(x *scene) { x.site.Loops[1].Delay = -1 },
		"a Delay too great":  func(x *scene) { x.site.Loops[0].Delay = 101 },
		"no such loop":       func(x *scene) { x.site.Racks[1].Loop = 2 },
		"a loop below 0":     func(x *scene) { x.site.Racks[1].Loop = -1 },
		"no such breaker":    func(x *scene) { x.site.Racks[1].Breaker = 2 },
		"no such rack":       func(x *scene) { x.site.Hosts[1].Rack = 2 },
		"a rack below 0":     func(x *scene) { x.site.Hosts[1].Rack = -1 },
		"a limit too great":  func(x *scene) { x.site.Feeds[0].Limit = 1000001 },
		"no switches":        func(x *scene) { x.site.Switches = 0 },
		"an Idle too great":  func(x *scene) { x.site.Hosts[0].Idle = 10001 },
		"a PerCore below 0":  func(x *scene) { x.site.Hosts[0].PerCore = -1 },
		"no hosts":           func(x *scene) { x.site.Hosts = nil },
		"a link to the same": func(x *scene) { x.site.Links = []api.Link{{A: 0, B: 0, Latency: 1}} },
	}, map[string]func(x *scene){
		"no wish":              func(x *scene) { x.wish = api.Wish{} },
		"no cores":             func(x *scene) { x.wish.Services[0].Cores = 0 },
		"too many replicas":    func(x *scene) { x.wish.Services[0].Replicas = 25 },
		"no world":             func(x *scene) { x.world = api.World{} },
		"a host less":          func(x *scene) { x.world.Hosts = x.world.Hosts[:1] },
		"a host more":          func(x *scene) { x.world.Hosts = make([]api.HostState, 3) },
		"no such phase":        func(x *scene) { x.world.Hosts[1].Phase = 5 },
		"a firmware below 0":   func(x *scene) { x.world.Hosts[1].Firmware = -1 },
		"a replica twice":      func(x *scene) { x.world.Replicas[1].Host = 0 },
		"replicas in disorder": func(x *scene) { slices.Reverse(x.world.Replicas) },
		"a replica on no host": func(x *scene) { x.world.Replicas[1].Host = 2 },
		"a replica of nothing": func(x *scene) { x.world.Replicas[1].Service = 1 },
		"a service very far":   func(x *scene) { x.world.Replicas[0].Service = math.MinInt },
	}
}

// misfits returns the example, spoilt in each way of a list.
func misfits(spoils map[string]func(x *scene)) map[string]scene {
	all := map[string]scene{}
	for name, spoil := range spoils {
		x := example()
		spoil(&x)
		all[name] = x
	}
	return all
}

// heatsOf reads the chapter a second time: each host and each replica brings its watts to the loop of its rack.
func heatsOf(x scene) []int {
	s := x.site
	heats := make([]int, len(s.Loops))
	bring := func(host, watts int) {
		if x.world.Hosts[host].Phase != api.HostBroken {
			heats[s.Racks[s.Hosts[host].Rack].Loop] += watts
		}
	}
	for i, h := range s.Hosts {
		bring(i, h.Idle)
	}
	for _, r := range x.world.Replicas {
		bring(r.Host, s.Hosts[r.Host].PerCore*x.wish.Services[r.Service].Cores)
	}
	return heats
}

// levelsOf reads the chapter a second time: each heat is brought on to the tick in which it arrives.
func levelsOf(l api.Loop, start int, heats []int, n int) []int {
	arrives := make([]int, len(heats)+l.Delay+n)
	for t, heat := range heats {
		arrives[t+l.Delay] = heat
	}
	levels := []int{start}
	for t := range n {
		start = max(0, start+arrives[t]-l.Carry)
		levels = append(levels, start)
	}
	return levels
}

// levelOf returns the level after n ticks of a heat without a step for each of them: at first nothing arrives, and then always as much.
func levelOf(l api.Loop, start, heat, n int) int {
	before := min(n, l.Delay)
	level := max(0, start-before*l.Carry)
	return max(0, level+(n-before)*(heat-l.Carry))
}

// outside are numbers that are not from 0 to the greatest one.
func outside(most int) []int {
	return []int{-1, -2, -most, most + 1, most + 2, most + 1<<32, -1 << 32, math.MaxInt, math.MaxInt - 1, math.MinInt, math.MinInt + 1}
}

// notLoops are numbers that no loop of a site has.
func notLoops(s api.Site) []int {
	l := []int{len(s.Loops), len(s.Loops) + 1}
	for _, n := range outside(len(s.Loops) - 1) {
		if n != 0 { // for a site with one loop, -most is that loop
			l = append(l, n)
		}
	}
	return l
}

func checkHeat(t *testing.T, x scene, loop, want int) {
	t.Helper()
	if got := cooling.Heat(x.site, x.wish, x.world, loop); got != want {
		t.Errorf("%v: Heat(%d) = %d, want %d", x, loop, got, want)
	}
}

func checkLinear(t *testing.T, s api.Site, loop int, want api.Linear, wantError api.Errno) {
	t.Helper()
	got, e := cooling.Linear(s, loop)
	if e != wantError || got.Carry != want.Carry || !slices.Equal(got.Parts, want.Parts) {
		t.Errorf("%v: Linear(%d) = %v, %d, want %v, %d", s, loop, got, e, want, wantError)
	}
}

func checkCourse(t *testing.T, s api.Site, loop, start int, heats []int, n int, want []int, wantError api.Errno) {
	t.Helper()
	got, e := cooling.Course(s, loop, start, heats, n)
	if e != wantError || !slices.Equal(got, want) {
		t.Errorf("%v: Course(%d, %d, %v, %d) = %v, %d, want %v, %d", s, loop, start, heats, n, got, e, want, wantError)
	}
}

func checkAfter(t *testing.T, x scene, loop, start, n, want int, wantError api.Errno) {
	t.Helper()
	if got, e := cooling.After(x.site, x.wish, x.world, loop, start, n); got != want || e != wantError {
		t.Errorf("%v: After(%d, %d, %d) = %d, %d, want %d, %d", x, loop, start, n, got, e, want, wantError)
	}
}

func checkLongest(t *testing.T, x scene, loop, start, limit, want int, wantError api.Errno) {
	t.Helper()
	if got, e := cooling.Longest(x.site, x.wish, x.world, loop, start, limit); got != want || e != wantError {
		t.Errorf("%v: Longest(%d, %d, %d) = %d, %d, want %d, %d", x, loop, start, limit, got, e, want, wantError)
	}
}
