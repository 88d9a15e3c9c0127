package invariant_test

import (
	"math"
	"math/rand"
	"slices"
	"testing"

	"majordomo/api"
	"majordomo/invariant"
)

// scene is a site with a wish and a world.
type scene struct {
	site  api.Site
	wish  api.Wish
	world api.World
}

// at returns a replica of a service on a host.
func at(service, host int) api.Replica { return api.Replica{Service: service, Host: host} }

// on returns replicas of a service on hosts.
func on(service int, hosts ...int) []api.Replica {
	var l []api.Replica
	for _, host := range hosts {
		l = append(l, at(service, host))
	}
	return l
}

// broken returns a broken invariant, of what and perhaps of what else.
func broken(k api.BrokenKind, of ...int) api.Broken {
	of = append(of, 0, 0)
	return api.Broken{Kind: k, A: of[0], B: of[1]}
}

// example is the scene of the chapter's examples, without replicas.
func example() scene {
	return scene{
		api.Site{
			Feeds:    make([]api.Feed, 1),
			Breakers: []api.Breaker{{Limit: 500}},
			Loops:    make([]api.Loop, 1),
			Racks:    []api.Rack{{Row: 0}, {Row: 2}},
			Switches: 1,
			Hosts:    []api.Host{{Rack: 0, Cores: 4}, {Rack: 0, Cores: 4}, {Rack: 1, Cores: 4}},
		},
		api.Wish{Services: []api.Service{{Cores: 3, Replicas: 2, Least: 1, Domain: api.DomainRack, Spread: 1}, {Cores: 2, Replicas: 1, Apart: []int{0}}}},
		api.World{Hosts: make([]api.HostState, 3)},
	}
}

// wide is a scene in which feeds, breakers, loops, racks, switches and hosts do not stand in the order of each other; its four services of one core ask for nothing, and nothing runs.
//
//	host     0 1 2 3 4 5 6 7
//	rack     4 0 2 1 3 0 2 4
//	row      0 3 3 0 1 3 3 0
//	breaker  1 1 2 0 3 1 2 1
//	feed     0 0 2 2 1 0 2 0
//	loop     1 2 0 0 2 2 0 1
//	switch   1 1 0 2 3 1 0 1
//
// The switches 0 and 2 are 3 from each other, 1 and 2 are 4, and 0 and 1 are 7; the switch 3 is alone.
func wide() scene {
	x := scene{
		api.Site{
			Feeds:    slices.Repeat([]api.Feed{{Limit: 1000}}, 3),
			Breakers: []api.Breaker{{Feed: 2, Limit: 1000}, {Feed: 0, Limit: 1000}, {Feed: 2, Limit: 1000}, {Feed: 1, Limit: 1000}},
			Loops:    slices.Repeat([]api.Loop{{Carry: 1000, Delay: 2}}, 3),
			Racks: []api.Rack{
				{Row: 3, Breaker: 1, Loop: 2, Switch: 1}, {Row: 0, Breaker: 0, Loop: 0, Switch: 2}, {Row: 3, Breaker: 2, Loop: 0, Switch: 0},
				{Row: 1, Breaker: 3, Loop: 2, Switch: 3}, {Row: 0, Breaker: 1, Loop: 1, Switch: 1},
			},
			Switches: 4,
			Links:    []api.Link{{A: 2, B: 1, Latency: 4}, {A: 0, B: 2, Latency: 3}, {A: 1, B: 0, Latency: 9}},
		},
		api.Wish{Services: slices.Repeat([]api.Service{{Cores: 1}}, 4)},
		api.World{Hosts: make([]api.HostState, 8)},
	}
	for _, rack := range []int{4, 0, 2, 1, 3, 0, 2, 4} {
		x.site.Hosts = append(x.site.Hosts, api.Host{Rack: rack, Cores: 8})
	}
	return x
}

// running returns a scene in whose world these replicas run.
func running(x scene, replicas ...api.Replica) scene {
	x.world.Replicas = slices.Clone(replicas)
	return x
}

// greatest is a scene with as much as possible of everything, which breaks all that it can.
func greatest() scene {
	x := scene{
		api.Site{
			Feeds:    make([]api.Feed, api.MaxFeeds),
			Breakers: make([]api.Breaker, api.MaxBreakers),
			Loops:    make([]api.Loop, api.MaxLoops),
			Switches: api.MaxSwitches,
		},
		api.Wish{Services: slices.Repeat([]api.Service{{Cores: 1000, Replicas: 3, Least: 3, Domain: api.DomainRack, Spread: 1, Firmware: api.MaxNumber}}, api.MaxServices)},
		api.World{Hosts: slices.Repeat([]api.HostState{{Phase: api.HostTesting, Firmware: api.MaxNumber - 1}}, api.MaxHosts)},
	}
	for i := range x.site.Breakers {
		x.site.Breakers[i].Feed = i % 4
		x.site.Racks = append(x.site.Racks, api.Rack{Row: i % 4, Breaker: i, Loop: i % 4, Switch: i})
	}
	for i := range api.MaxHosts {
		x.site.Hosts = append(x.site.Hosts, api.Host{Rack: i % 8, Cores: 999, Idle: 10000, PerCore: 1000})
	}
	for i := range x.wish.Services {
		for other := range x.wish.Services {
			if other != i {
				x.wish.Services[i].Apart = append(x.wish.Services[i].Apart, other)
				x.wish.Services[i].Near = append(x.wish.Services[i].Near, api.Near{Service: other, Latency: api.MaxNumber})
			}
		}
		x.world.Replicas = append(x.world.Replicas, on(i, 3, 11, 15)...)
	}
	return x
}

// mixed is the wide scene with many replicas; it breaks of each kind what everyBroken says, and nothing else.
func mixed() scene {
	x := wide()
	x.wish.Services = []api.Service{
		{Cores: 5, Replicas: 6, Least: 5, Domain: api.DomainRack, Spread: 1, Apart: []int{1, 2}, Near: []api.Near{{Service: 1, Latency: 0}, {Service: 3, Latency: 1000000}}, Firmware: 2},
		{Cores: 4, Replicas: 2, Domain: api.DomainLoop, Spread: 1, Apart: []int{0}, Firmware: 3},
		{Cores: 9, Replicas: 1, Least: 1, Near: []api.Near{{Service: 0, Latency: 0}}},
		{Cores: 1, Replicas: 5, Least: 2, Near: []api.Near{{Service: 1, Latency: 8}, {Service: 2, Latency: 1000000}}},
	}
	x.world.Replicas = slices.Concat(on(0, 1, 2, 5, 6), on(1, 5, 6), on(2, 1), on(3, 4))
	for host, phase := range []api.Phase{api.HostBroken, api.HostDraining, api.HostEmpty, api.HostTesting, api.HostTesting, api.HostServing, api.HostBroken, api.HostEmpty} {
		x.world.Hosts[host] = api.HostState{Phase: phase, Firmware: []int{0, 2, 1, 0, 0, 1, 2, 0}[host]}
		x.site.Hosts[host].Idle, x.site.Hosts[host].PerCore = 10, 1
	}
	for i, limit := range []int{10, 52, 15, 10} { // the loads are 10, 53, 15 and 11
		x.site.Breakers[i].Limit = limit
	}
	for i, limit := range []int{52, 11, 24} { // the loads are 53, 11 and 25
		x.site.Feeds[i].Limit = limit
	}
	for i, carry := range []int{24, 9, 54} { // the heats are 25, 10 and 54
		x.site.Loops[i].Carry = carry
	}
	return x
}

// everyBroken is what the mixed scene breaks.
func everyBroken() []api.Broken {
	return []api.Broken{
		broken(api.BrokenCores, 1), broken(api.BrokenCores, 5), broken(api.BrokenCores, 6),
		broken(api.BrokenPhase, 2), broken(api.BrokenPhase, 4), broken(api.BrokenPhase, 6),
		broken(api.BrokenLeast, 0), broken(api.BrokenLeast, 3),
		broken(api.BrokenSpread, 0, 0), broken(api.BrokenSpread, 0, 2),
		broken(api.BrokenApart, 0, 1), broken(api.BrokenApart, 0, 2), broken(api.BrokenApart, 1, 0),
		broken(api.BrokenNear, 0, 1), broken(api.BrokenNear, 0, 3), broken(api.BrokenNear, 3, 1), broken(api.BrokenNear, 3, 2),
		broken(api.BrokenFirmware, 0, 2), broken(api.BrokenFirmware, 0, 5), broken(api.BrokenFirmware, 1, 5), broken(api.BrokenFirmware, 1, 6),
		broken(api.BrokenBreaker, 1), broken(api.BrokenBreaker, 3),
		broken(api.BrokenFeed, 0), broken(api.BrokenFeed, 2),
		broken(api.BrokenLoop, 0), broken(api.BrokenLoop, 1),
	}
}

// randomSite returns a valid site, with limits of about so much.
func randomSite(r *rand.Rand, limit int) api.Site {
	some := func(most int) int { return 1 + r.Intn(most) }
	s := api.Site{Feeds: make([]api.Feed, some(4)), Breakers: make([]api.Breaker, some(8)), Loops: make([]api.Loop, some(4)), Racks: make([]api.Rack, some(8)), Switches: some(8), Hosts: make([]api.Host, some(16))}
	for i := range s.Feeds {
		s.Feeds[i].Limit = r.Intn(6*limit + 1)
	}
	for i := range s.Breakers {
		s.Breakers[i] = api.Breaker{Feed: r.Intn(len(s.Feeds)), Limit: r.Intn(4*limit + 1), Slow: r.Intn(9), Fast: r.Intn(9)}
	}
	for i := range s.Loops {
		s.Loops[i] = api.Loop{Carry: r.Intn(6*limit + 1), Delay: r.Intn(101)}
	}
	for i := range s.Racks {
		s.Racks[i] = api.Rack{Row: r.Intn(4), Breaker: r.Intn(len(s.Breakers)), Loop: r.Intn(len(s.Loops)), Switch: r.Intn(s.Switches)}
	}
	if s.Switches > 1 {
		for range r.Intn(17) {
			a := r.Intn(s.Switches)
			s.Links = append(s.Links, api.Link{A: a, B: (a + some(s.Switches-1)) % s.Switches, Latency: some(9)})
		}
	}
	for i := range s.Hosts {
		s.Hosts[i] = api.Host{Rack: r.Intn(len(s.Racks)), Cores: some(12), Idle: r.Intn(min(limit, 30)), PerCore: r.Intn(5)}
	}
	return s
}

// randomWish returns a valid wish; its services ask for so much of ten.
func randomWish(r *rand.Rand, much int) api.Wish {
	asks := func() bool { return r.Intn(10) < much }
	wish := api.Wish{Services: make([]api.Service, r.Intn(9))}
	for i := range wish.Services {
		s := &wish.Services[i]
		s.Cores, s.Replicas = 1+r.Intn(5), r.Intn(4)
		if asks() {
			s.Least = r.Intn(s.Replicas + 1)
		}
		if asks() {
			s.Domain, s.Spread = api.Domain(1+r.Intn(5)), 1+r.Intn(3)
		}
		if asks() {
			s.Firmware = r.Intn(4)
		}
		for other := range wish.Services {
			if other != i && asks() && r.Intn(4) == 0 {
				s.Apart = append(s.Apart, other)
			}
			if other != i && asks() && r.Intn(4) == 0 {
				s.Near = append(s.Near, api.Near{Service: other, Latency: r.Intn(20)})
			}
		}
	}
	return wish
}

// random returns a valid scene, with limits of about so much; its services ask for so much of ten.
func random(r *rand.Rand, limit, much int) scene {
	x := scene{site: randomSite(r, limit), wish: randomWish(r, much)}
	x.world.Hosts = make([]api.HostState, len(x.site.Hosts))
	for i := range x.world.Hosts {
		x.world.Hosts[i] = api.HostState{Phase: api.Phase(r.Intn(2)), Firmware: 1 + r.Intn(4)}
		if r.Intn(10) < much {
			x.world.Hosts[i].Phase = api.Phase(r.Intn(5))
		}
	}
	var all []api.Replica
	for service := range x.wish.Services {
		for host := range x.site.Hosts {
			all = append(all, at(service, host))
		}
	}
	for many := r.Intn(min(24, len(all)) + 1); len(all) > many; {
		i := r.Intn(len(all))
		all = slices.Delete(all, i, i+1)
	}
	x.world.Replicas = all
	return x
}

// someScenes are valid scenes.
func someScenes(seed int64, many int) []scene {
	all := []scene{example(), running(example(), at(0, 0), at(0, 2)), running(example(), at(0, 0), at(0, 1), at(1, 0)), wide(), mixed(), greatest()}
	r := rand.New(rand.NewSource(seed))
	for i := range many {
		all = append(all, random(r, []int{5, 50, 500}[i%3], i%7))
	}
	return all
}

// misfits are scenes whose world is not valid, by what is wrong; but for that, each of them would break invariants.
func misfits() map[string]scene {
	all := map[string]scene{"nothing": {}, "no site": {wish: example().wish, world: example().world}}
	for name, spoil := range map[string]func(x *scene){
		"no feeds":             func(x *scene) { x.site.Feeds = nil },
		"no such feed":         func(x *scene) { x.site.Breakers[0].Feed = 1 },
		"no such breaker":      func(x *scene) { x.site.Racks[1].Breaker = 1 },
		"a limit too great":    func(x *scene) { x.site.Breakers[0].Limit = 1000001 },
		"a limit below 0":      func(x *scene) { x.site.Feeds[0].Limit = -1 },
		"a Carry below 0":      func(x *scene) { x.site.Loops[0].Carry = -1 },
		"a Delay too great":    func(x *scene) { x.site.Loops[0].Delay = 101 },
		"no such rack":         func(x *scene) { x.site.Hosts[1].Rack = 2 },
		"no switches":          func(x *scene) { x.site.Switches = 0 },
		"a host without cores": func(x *scene) { x.site.Hosts[0].Cores = 0 },
		"a Least too great":    func(x *scene) { x.wish.Services[0].Least = 3 },
		"a Spread of nothing":  func(x *scene) { x.wish.Services[0].Domain = api.DomainNone },
		"a Domain of 0":        func(x *scene) { x.wish.Services[0].Spread = 0 },
		"no such Domain":       func(x *scene) { x.wish.Services[0].Domain = 6 },
		"apart from itself":    func(x *scene) { x.wish.Services[1].Apart[0] = 1 },
		"apart from nothing":   func(x *scene) { x.wish.Services[1].Apart[0] = 2 },
		"near nothing":         func(x *scene) { x.wish.Services[1].Near = []api.Near{{Service: -1}} },
		"a latency below 0":    func(x *scene) { x.wish.Services[1].Near = []api.Near{{Service: 0, Latency: -1}} },
		"no cores":             func(x *scene) { x.wish.Services[1].Cores = 0 },
		"too many replicas":    func(x *scene) { x.wish.Services[0].Replicas = 24 },
		"no wish":              func(x *scene) { x.wish = api.Wish{} },
		"no world":             func(x *scene) { x.world = api.World{} },
		"a host less":          func(x *scene) { x.world.Hosts = x.world.Hosts[:2] },
		"a host more":          func(x *scene) { x.world.Hosts = make([]api.HostState, 4) },
		"no such phase":        func(x *scene) { x.world.Hosts[2].Phase = 5 },
		"a firmware below 0":   func(x *scene) { x.world.Hosts[2].Firmware = -1 },
		"a replica twice":      func(x *scene) { x.world.Replicas[1].Host = 0 },
		"replicas in disorder": func(x *scene) { slices.Reverse(x.world.Replicas) },
		"a replica on no host": func(x *scene) { x.world.Replicas[2].Host = 3 },
		"a replica on host -1": func(x *scene) { x.world.Replicas[0].Host = -1 },
		"a replica of nothing": func(x *scene) { x.world.Replicas[2].Service = 2 },
		"a service very far":   func(x *scene) { x.world.Replicas[0].Service = math.MinInt },
	} {
		x := running(example(), at(0, 0), at(0, 1), at(1, 0))
		spoil(&x)
		all[name] = x
	}
	return all
}

// checkBroken checks what is broken in a scene whose world is valid.
func checkBroken(t *testing.T, name string, x scene, want ...api.Broken) {
	t.Helper()
	if got := invariant.Broken(x.site, x.wish, x.world); !slices.Equal(got, want) {
		t.Errorf("%s: Broken is %v, want %v, for %v", name, got, want, x)
	}
	if got := invariant.Holds(x.site, x.wish, x.world); got != (len(want) == 0) {
		t.Errorf("%s: Holds is %t, broken should be %v, for %v", name, got, want, x)
	}
}

// checkRefused checks a scene whose world is not valid: nothing is broken, but it does not hold.
func checkRefused(t *testing.T, name string, x scene) {
	t.Helper()
	if got := invariant.Broken(x.site, x.wish, x.world); len(got) > 0 {
		t.Errorf("%s: Broken is %v", name, got)
	}
	if invariant.Holds(x.site, x.wish, x.world) {
		t.Errorf("%s: Holds is true", name)
	}
}

func checkKept(t *testing.T, before, after []api.Broken, want api.Broken, wantOk bool) {
	t.Helper()
	if got, ok := invariant.Kept(before, after); got != want || ok != wantOk {
		t.Errorf("Kept(%v, %v) = %v, %t, want %v, %t", before, after, got, ok, want, wantOk)
	}
}

func checkOf(t *testing.T, l []api.Broken, k api.BrokenKind, want ...api.Broken) {
	t.Helper()
	if got := invariant.Of(l, k); !slices.Equal(got, want) {
		t.Errorf("Of(%v, %d) = %v, want %v", l, k, got, want)
	}
}
