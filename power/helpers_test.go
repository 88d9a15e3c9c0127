package power_test

import (
	"math"
	"math/rand"
	"slices"
	"testing"

	"majordomo/api"
	"majordomo/power"
)

// scene is a site with a wish and a world.
type scene struct {
	site  api.Site
	wish  api.Wish
	world api.World
}

// example is the scene of the chapter's examples.
func example() scene {
	return scene{
		api.Site{
			Feeds:    []api.Feed{{Limit: 300}},
			Breakers: []api.Breaker{{Limit: 200}, {Limit: 200}},
			Loops:    make([]api.Loop, 1),
			Racks:    []api.Rack{{Breaker: 0}, {Breaker: 1}},
			Switches: 1,
			Hosts:    []api.Host{{Rack: 0, Cores: 4, Idle: 100, PerCore: 50}, {Rack: 1, Cores: 4, Idle: 100, PerCore: 50}},
		},
		api.Wish{Services: []api.Service{{Cores: 2, Replicas: 2}}},
		api.World{Hosts: make([]api.HostState, 2), Replicas: []api.Replica{{Host: 0}, {Host: 1}}},
	}
}

// wide is a scene in which feeds, breakers, racks and hosts do not stand in the order of each other, and some have nothing on them.
func wide() scene {
	return scene{
		api.Site{
			Feeds:    []api.Feed{{Limit: 50}, {Limit: 1000}, {Limit: 70}},
			Breakers: []api.Breaker{{Feed: 2, Limit: 60, Slow: 30, Fast: 90}, {Feed: 0, Limit: 45, Slow: 100, Fast: 200}, {Feed: 2, Limit: 20, Slow: 7, Fast: 10}, {Feed: 2, Limit: 9}},
			Loops:    make([]api.Loop, 1),
			Racks:    []api.Rack{{Breaker: 1}, {Breaker: 0}, {Breaker: 1}, {Breaker: 2}, {Breaker: 0}},
			Switches: 1,
			Hosts: []api.Host{
				{Rack: 4, Cores: 8, Idle: 10, PerCore: 1}, {Rack: 0, Cores: 8, Idle: 20, PerCore: 3}, {Rack: 1, Cores: 1, Idle: 5, PerCore: 10}, {Rack: 3, Cores: 4, Idle: 19},
				{Rack: 0, Cores: 2, Idle: 0, PerCore: 7}, {Rack: 4, Cores: 3, Idle: 1, PerCore: 2},
			},
		},
		api.Wish{Services: []api.Service{{Cores: 2, Replicas: 3}, {Cores: 5}, {Cores: 1, Replicas: 1}}},
		api.World{
			Hosts: []api.HostState{{}, {Phase: api.HostDraining, Firmware: 3}, {Phase: api.HostEmpty}, {Phase: api.HostTesting}, {Phase: api.HostBroken}, {}},
			Replicas: []api.Replica{
				{Service: 0, Host: 1}, {Service: 0, Host: 2}, {Service: 0, Host: 4},
				{Service: 1, Host: 1}, {Service: 1, Host: 3}, {Service: 1, Host: 5},
				{Service: 2, Host: 2}, {Service: 2, Host: 5},
			},
		},
	}
}

// greatest is a scene with as much as possible of everything, all of it on one breaker.
func greatest() scene {
	return scene{
		api.Site{
			Feeds:    slices.Repeat([]api.Feed{{Limit: 1000000}}, 4),
			Breakers: slices.Repeat([]api.Breaker{{Feed: 3, Limit: 1000000, Slow: 1000000, Fast: 1000000}}, 8),
			Loops:    make([]api.Loop, 4),
			Racks:    slices.Repeat([]api.Rack{{Breaker: 7}}, 8),
			Switches: 8,
			Hosts:    slices.Repeat([]api.Host{{Rack: 7, Cores: 1000, Idle: 10000, PerCore: 1000}}, 16),
		},
		api.Wish{Services: slices.Repeat([]api.Service{{Cores: 1000, Replicas: 3}}, 8)},
		api.World{Hosts: slices.Repeat([]api.HostState{{Phase: api.HostTesting, Firmware: 1000000}}, 16), Replicas: pairs(8, 3)},
	}
}

// single returns a scene with one of everything: a host that takes so many watts, on this breaker and this feed.
func single(feed, watts int, b api.Breaker) scene {
	s := scene{
		site:  api.Site{Feeds: []api.Feed{{Limit: feed}}, Breakers: []api.Breaker{b}, Loops: make([]api.Loop, 1), Racks: make([]api.Rack, 1), Switches: 1},
		wish:  api.Wish{Services: []api.Service{{Cores: 1}, {Cores: 1}}},
		world: api.World{Hosts: make([]api.HostState, 1)},
	}
	perCore := min(watts, 1000)
	cores := 0
	if perCore > 0 {
		cores = min(watts/perCore, 1000)
	}
	if cores > 0 {
		s.wish.Services[0].Cores = cores
		s.world.Replicas = pairs(1, 1)
	}
	s.site.Hosts = []api.Host{{Cores: 1, Idle: watts - cores*perCore, PerCore: perCore}}
	return s
}

// pairs returns all replicas of so many services on so many hosts, by service, then by host.
func pairs(services, hosts int) []api.Replica {
	var l []api.Replica
	for service := range services {
		for host := range hosts {
			l = append(l, api.Replica{Service: service, Host: host})
		}
	}
	return l
}

// random returns a valid scene, with limits of about so much.
func random(r *rand.Rand, limit int) scene {
	some := func(most int) int { return 1 + r.Intn(most) }
	x := scene{site: api.Site{Feeds: make([]api.Feed, some(4)), Breakers: make([]api.Breaker, some(8)), Loops: make([]api.Loop, 1), Racks: make([]api.Rack, some(8)), Switches: 1, Hosts: make([]api.Host, some(16))}}
	s := x.site
	for i := range s.Feeds {
		s.Feeds[i].Limit = r.Intn(3*limit + 1)
	}
	for i := range s.Breakers {
		s.Breakers[i] = api.Breaker{Feed: r.Intn(len(s.Feeds)), Limit: r.Intn(2*limit + 1), Slow: r.Intn(limit + 1), Fast: r.Intn(4*limit + 1)}
	}
	for i := range s.Racks {
		s.Racks[i].Breaker = r.Intn(len(s.Breakers))
	}
	for i := range s.Hosts {
		s.Hosts[i] = api.Host{Rack: r.Intn(len(s.Racks)), Cores: 1, Idle: r.Intn(min(limit, 10000) + 1), PerCore: r.Intn(min(limit, 1000) + 1)}
		x.world.Hosts = append(x.world.Hosts, api.HostState{Phase: api.Phase(r.Intn(5)), Firmware: r.Intn(3)})
	}
	for range r.Intn(9) {
		x.wish.Services = append(x.wish.Services, api.Service{Cores: some(4)})
	}
	all := pairs(len(x.wish.Services), len(s.Hosts))
	for many := r.Intn(min(24, len(all)) + 1); len(all) > many; {
		i := r.Intn(len(all))
		all = slices.Delete(all, i, i+1)
	}
	x.world.Replicas = all
	return x
}

// someScenes are valid scenes.
func someScenes(seed int64, many int) []scene {
	all := []scene{example(), wide(), greatest()}
	r := rand.New(rand.NewSource(seed))
	for i := range many {
		all = append(all, random(r, []int{3, 20, 100, 1000, 20000}[i%5]))
	}
	return all
}

// misfits are scenes whose world is not valid, by what is wrong.
func misfits() map[string]scene {
	all := map[string]scene{"nothing": {}, "no site": {wish: example().wish, world: example().world}}
	for name, spoil := range map[string]func(x *scene){
		"no feeds":              func(x *scene) { x.site.Feeds = nil },
		"no such feed":          func(x *scene) { x.site.Breakers[1].Feed = 1 },
		"no such breaker":       func(x *scene) { x.site.Racks[1].Breaker = 2 },
		"a breaker below 0":     func(x *scene) { x.site.Racks[1].Breaker = -1 },
		"no such rack":          func(x *scene) { x.site.Hosts[1].Rack = 2 },
		"a rack below 0":        func(x *scene) { x.site.Hosts[1].Rack = -1 },
		"a limit too great":     func(x *scene) { x.site.Feeds[0].Limit = 1000001 },
		"a limit below 0":       func(x *scene) { x.site.Breakers[0].Limit = -1 },
		"no switches":           func(x *scene) { x.site.Switches = 0 },
		"no cores":              func(x *scene) { x.wish.Services[0].Cores = 0 },
		"too many replicas":     func(x *scene) { x.wish.Services[0].Replicas = 25 },
		"no wish":               func(x *scene) { x.wish = api.Wish{} },
		"no world":              func(x *scene) { x.world = api.World{} },
		"a host less":           func(x *scene) { x.world.Hosts = x.world.Hosts[:1] },
		"a host more":           func(x *scene) { x.world.Hosts = make([]api.HostState, 3) },
		"no such phase":         func(x *scene) { x.world.Hosts[1].Phase = 5 },
		"a firmware below 0":    func(x *scene) { x.world.Hosts[1].Firmware = -1 },
		"a replica twice":       func(x *scene) { x.world.Replicas[1].Host = 0 },
		"replicas in disorder":  func(x *scene) { slices.Reverse(x.world.Replicas) },
		"a replica on no host":  func(x *scene) { x.world.Replicas[1].Host = 2 },
		"a replica of nothing":  func(x *scene) { x.world.Replicas[1].Service = 1 },
		"a service of very far": func(x *scene) { x.world.Replicas[0].Service = math.MinInt },
	} {
		x := example()
		spoil(&x)
		all[name] = x
	}
	return all
}

// loads are the loads of all parts of a site.
type loads struct{ hosts, racks, breakers, feeds []int }

// loadsOf reads the chapter a second time: each host and each replica brings its watts to its host, its rack, its breaker and its feed.
func loadsOf(x scene) loads {
	s := x.site
	l := loads{make([]int, len(s.Hosts)), make([]int, len(s.Racks)), make([]int, len(s.Breakers)), make([]int, len(s.Feeds))}
	bring := func(host, watts int) {
		if x.world.Hosts[host].Phase == api.HostBroken {
			return
		}
		rack := s.Hosts[host].Rack
		l.hosts[host] += watts
		l.racks[rack] += watts
		l.breakers[s.Racks[rack].Breaker] += watts
		l.feeds[s.Breakers[s.Racks[rack].Breaker].Feed] += watts
	}
	for i, h := range s.Hosts {
		bring(i, h.Idle)
	}
	for _, r := range x.world.Replicas {
		bring(r.Host, s.Hosts[r.Host].PerCore*x.wish.Services[r.Service].Cores)
	}
	return l
}

// netOf reads the chapter a second time: it makes the arcs from the loads, and numbers the nodes of a kind by what stands before it.
func netOf(x scene) api.Net {
	s, l := x.site, loadsOf(x)
	node := func(place int, before ...int) int {
		n := 2 + place
		for _, many := range before {
			n += many
		}
		return n
	}
	var arcs [4][]api.Arc
	feeds, breakers := len(s.Feeds), len(s.Breakers)
	for i := range s.Feeds {
		arcs[0] = append(arcs[0], api.Arc{From: 0, To: node(i), Cap: s.Feeds[i].Limit})
	}
	for i, b := range s.Breakers {
		arcs[1] = append(arcs[1], api.Arc{From: node(b.Feed), To: node(i, feeds), Cap: b.Limit})
	}
	for i, rack := range s.Racks {
		arcs[2] = append(arcs[2], api.Arc{From: node(rack.Breaker, feeds), To: node(i, feeds, breakers), Cap: l.racks[i]})
		arcs[3] = append(arcs[3], api.Arc{From: node(i, feeds, breakers), To: 1, Cap: l.racks[i]})
	}
	return api.Net{Nodes: node(0, feeds, breakers, len(s.Racks)), Arcs: slices.Concat(arcs[:]...)}
}

// borne reads the chapter a second time: how many ticks a breaker bears a load from the heat 0 on, each of which heats it by what is above its limit.
func borne(b api.Breaker, load int) int {
	switch {
	case load <= b.Limit:
		return -1
	case load > b.Fast:
		return 0
	}
	return b.Slow / (load - b.Limit)
}

// outside are numbers that are not from least to most.
func outside(least, most int) []int {
	return []int{least - 1, least - 2, most + 1, most + 2, most + 1<<32, -1 << 32, math.MaxInt, math.MaxInt - 1, math.MinInt, math.MinInt + 1}
}

func checkWatts(t *testing.T, x scene, host, want int) {
	t.Helper()
	if got := power.Watts(x.site, x.wish, x.world, host); got != want {
		t.Errorf("%v: Watts(%d) = %d, want %d", x, host, got, want)
	}
}

func checkRack(t *testing.T, x scene, rack, want int) {
	t.Helper()
	if got := power.OfRack(x.site, x.wish, x.world, rack); got != want {
		t.Errorf("%v: OfRack(%d) = %d, want %d", x, rack, got, want)
	}
}

func checkBreaker(t *testing.T, x scene, b, want int) {
	t.Helper()
	if got := power.OfBreaker(x.site, x.wish, x.world, b); got != want {
		t.Errorf("%v: OfBreaker(%d) = %d, want %d", x, b, got, want)
	}
}

func checkFeed(t *testing.T, x scene, f, want int) {
	t.Helper()
	if got := power.OfFeed(x.site, x.wish, x.world, f); got != want {
		t.Errorf("%v: OfFeed(%d) = %d, want %d", x, f, got, want)
	}
}

// checkAll checks the loads of all parts of one kind after the other.
func checkAll(t *testing.T, x scene, want loads) {
	t.Helper()
	for _, kind := range []struct {
		wanted []int
		check  func(*testing.T, scene, int, int)
	}{{want.hosts, checkWatts}, {want.racks, checkRack}, {want.breakers, checkBreaker}, {want.feeds, checkFeed}} {
		for i, load := range kind.wanted {
			kind.check(t, x, i, load)
		}
	}
}

func checkNet(t *testing.T, x scene, want api.Net) {
	t.Helper()
	if got := power.Net(x.site, x.wish, x.world); got.Nodes != want.Nodes || !slices.Equal(got.Arcs, want.Arcs) {
		t.Errorf("%v: Net is %v, want %v", x, got, want)
	}
}

func checkCarried(t *testing.T, x scene, want int) {
	t.Helper()
	if got := power.Carried(x.site, x.wish, x.world); got != want {
		t.Errorf("%v: Carried is %d, want %d", x, got, want)
	}
}

func checkBears(t *testing.T, x scene, b, want int) {
	t.Helper()
	if got := power.Bears(x.site, x.wish, x.world, b); got != want {
		t.Errorf("%v: Bears(%d) = %d, want %d", x, b, got, want)
	}
}
