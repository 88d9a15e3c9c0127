package invariant_test

import (
	"math/rand"
	"slices"
	"testing"

	"majordomo/api"
	"majordomo/invariant"
	"majordomo/world"
)

// P17.1: Broken, Holds.

func TestExamples(t *testing.T) {
	checkBroken(t, "one in each rack", running(example(), at(0, 0), at(0, 2)))
	checkBroken(t, "all in one rack", running(example(), at(0, 0), at(0, 1), at(1, 0)), broken(api.BrokenCores, 0), broken(api.BrokenSpread, 0, 0), broken(api.BrokenApart, 1, 0))
	checkBroken(t, "no replicas", example(), broken(api.BrokenLeast, 0))
	x := running(example(), at(0, 0))
	x.world.Hosts[0].Phase = api.HostTesting
	checkBroken(t, "a host is tested", x, broken(api.BrokenPhase, 0))
}

func TestNothingAskedFor(t *testing.T) {
	x := example()
	x.wish = api.Wish{}
	checkBroken(t, "no services", x)
	checkBroken(t, "no replicas", wide())
	checkBroken(t, "a service everywhere", running(wide(), on(0, 0, 1, 2, 3, 4, 5, 6, 7)...))
}

func TestCores(t *testing.T) {
	for host := range 8 {
		for cores := 1; cores <= 9; cores++ {
			x := running(wide(), at(0, host), at(1, (host+1)%8), at(2, host))
			x.wish.Services[0].Cores, x.wish.Services[1].Cores, x.wish.Services[2].Cores = 2, 8, 3
			x.site.Hosts[host].Cores = cores
			var want []api.Broken
			if cores < 5 {
				want = append(want, broken(api.BrokenCores, host))
			}
			checkBroken(t, "some cores", x, want...)
		}
	}
	x := running(wide(), on(0, 1, 3, 6)...)
	x.wish.Services[0].Cores = 9
	checkBroken(t, "a great service", x, broken(api.BrokenCores, 1), broken(api.BrokenCores, 3), broken(api.BrokenCores, 6))
}

// Hosts that let nothing run are all right as long as nothing does; more than one replica on them is still one invariant.
func TestPhases(t *testing.T) {
	for phase := api.HostServing; phase <= api.HostBroken; phase++ {
		for host := range 8 {
			for many := range 3 {
				x := running(wide(), []api.Replica{at(0, host), at(2, host)}[:many]...)
				x.world.Hosts[host].Phase = phase
				x.world.Hosts[(host+3)%8].Phase = api.HostTesting
				var want []api.Broken
				if many > 0 && phase != api.HostServing && phase != api.HostDraining {
					want = append(want, broken(api.BrokenPhase, host))
				}
				checkBroken(t, "a phase", x, want...)
			}
		}
	}
	x := running(wide(), at(3, 1), at(3, 7))
	x.world.Hosts = slices.Repeat([]api.HostState{{Phase: api.HostBroken}}, 8)
	checkBroken(t, "all hosts are broken", x, broken(api.BrokenPhase, 1), broken(api.BrokenPhase, 7))
}

func TestLeast(t *testing.T) {
	for service := range 4 {
		for least := range 5 {
			for many := range 5 {
				x := running(wide(), on(service, []int{1, 2, 4, 7}[:many]...)...)
				x.wish.Services[service].Replicas, x.wish.Services[service].Least = 4, least
				var want []api.Broken
				if many < least {
					want = append(want, broken(api.BrokenLeast, service))
				}
				checkBroken(t, "some replicas", x, want...)
			}
		}
	}
	x := wide()
	for i, least := range []int{1, 0, 3, 2} {
		x.wish.Services[i].Replicas, x.wish.Services[i].Least = 3, least
	}
	checkBroken(t, "no replicas", x, broken(api.BrokenLeast, 0), broken(api.BrokenLeast, 2), broken(api.BrokenLeast, 3))
	checkBroken(t, "replicas of others", running(x, on(1, 1, 2, 3, 4)...), broken(api.BrokenLeast, 0), broken(api.BrokenLeast, 2), broken(api.BrokenLeast, 3))
}

// What runs on a broken host still runs.
func TestLeastOnBrokenHost(t *testing.T) {
	x := running(wide(), at(0, 3))
	x.wish.Services[0].Replicas, x.wish.Services[0].Least = 1, 1
	x.world.Hosts[3].Phase = api.HostBroken
	checkBroken(t, "one on a broken host", x, broken(api.BrokenPhase, 3))
}

func TestSpread(t *testing.T) {
	for _, kind := range []struct {
		of   api.Domain
		runs []int // of each domain, if a replica runs on each host
	}{
		{api.DomainHost, []int{1, 1, 1, 1, 1, 1, 1, 1}}, {api.DomainRack, []int{2, 1, 2, 1, 2}}, {api.DomainRow, []int{3, 1, 0, 4}},
		{api.DomainFeed, []int{4, 1, 3}}, {api.DomainLoop, []int{3, 2, 3}},
	} {
		for spread := 1; spread <= 9; spread++ {
			for service := range 4 {
				x := running(wide(), on(service, 0, 1, 2, 3, 4, 5, 6, 7)...)
				x.wish.Services[service].Domain, x.wish.Services[service].Spread = kind.of, spread
				var want []api.Broken
				for domain, many := range kind.runs {
					if many > spread {
						want = append(want, broken(api.BrokenSpread, service, domain))
					}
				}
				checkBroken(t, "a replica on each host", x, want...)
			}
		}
	}
}

// Only replicas of the service itself count.
func TestSpreadOfEachService(t *testing.T) {
	x := running(wide(), slices.Concat(on(0, 1), on(1, 1, 5), on(2, 0, 5, 7), on(3, 1, 5))...)
	for i := range x.wish.Services[:3] {
		x.wish.Services[i].Domain, x.wish.Services[i].Spread = api.DomainRack, 1
	}
	checkBroken(t, "two in a rack", x, broken(api.BrokenSpread, 1, 0), broken(api.BrokenSpread, 2, 4))
}

// To be apart is asked of the one service, but not of the other one; it does not matter how many hosts they share.
func TestApart(t *testing.T) {
	x := running(wide(), slices.Concat(on(0, 2, 5, 7), on(1, 0, 2, 7), on(2, 1, 5), on(3, 6))...)
	checkBroken(t, "nobody asks", x)
	x.wish.Services[0].Apart = []int{1, 2, 3}
	checkBroken(t, "0 asks", x, broken(api.BrokenApart, 0, 1), broken(api.BrokenApart, 0, 2))
	x.wish.Services[1].Apart = []int{0, 2}
	x.wish.Services[2].Apart = []int{1, 3}
	x.wish.Services[3].Apart = []int{0, 1, 2}
	checkBroken(t, "all ask", x, broken(api.BrokenApart, 0, 1), broken(api.BrokenApart, 0, 2), broken(api.BrokenApart, 1, 0))
	x.wish.Services[0].Apart = nil
	checkBroken(t, "0 does not ask", x, broken(api.BrokenApart, 1, 0))
	x.world.Replicas = on(0, 2, 5, 7)
	checkBroken(t, "the others do not run", x)
	x.world.Replicas = slices.Concat(on(0, 0), on(1, 7))
	checkBroken(t, "in one rack", x)
	x.world.Replicas = slices.Concat(on(0, 0), on(1, 0))
	x.world.Hosts[0].Phase = api.HostDraining
	checkBroken(t, "on a draining host", x, broken(api.BrokenApart, 1, 0))
}

// The latency to the nearest replica is what counts.
func TestNear(t *testing.T) {
	for _, x := range []struct {
		host     int
		others   []int
		nearest  int // -1: there is none
		nearName string
	}{
		{0, []int{0}, 0, "the same host"}, {0, []int{7}, 1, "the same rack"}, {0, []int{1}, 1, "the same switch"},
		{2, []int{3}, 4, "the next switch"}, {3, []int{0}, 5, "another next switch"}, {5, []int{6}, 8, "over a switch"}, {6, []int{5}, 8, "over a switch, and back"},
		{4, []int{4}, 0, "alone, with it"}, {4, []int{0, 1, 2, 3, 5, 6, 7}, -1, "alone"}, {2, []int{4}, -1, "the other one alone"}, {3, nil, -1, "no other one"},
		{2, []int{0, 3, 4, 7}, 4, "the second of some"}, {2, []int{1, 4, 6}, 1, "the last of some"}, {3, []int{2, 5}, 4, "the first of two"},
	} {
		for _, latency := range []int{0, 1, 2, 3, 4, 5, 7, 8, 9, 999999, api.MaxNumber} {
			scene := running(wide(), slices.Concat(on(1, x.host), on(2, x.others...))...)
			scene.wish.Services[1].Near = []api.Near{{Service: 2, Latency: latency}}
			var want []api.Broken
			if x.nearest < 0 || x.nearest > latency {
				want = append(want, broken(api.BrokenNear, 1, 2))
			}
			checkBroken(t, x.nearName, scene, want...)
		}
	}
}

// Each replica of the service has to be near, but not each one of the other service.
func TestEachReplicaIsNear(t *testing.T) {
	x := wide()
	x.wish.Services[3].Near = []api.Near{{Service: 0, Latency: 1}, {Service: 1, Latency: 4}, {Service: 2, Latency: 0}}
	checkBroken(t, "nothing runs", x)
	checkBroken(t, "the others run", running(x, slices.Concat(on(0, 1, 4), on(1, 3), on(2, 6))...))
	all := slices.Concat(on(0, 0, 2, 4), on(1, 3, 4), on(2, 2, 4, 6))
	checkBroken(t, "all are near", running(x, slices.Concat(all, on(3, 2, 4, 6))...))
	checkBroken(t, "the last one is not", running(x, slices.Concat(all, on(3, 2, 4, 7))...), broken(api.BrokenNear, 3, 1), broken(api.BrokenNear, 3, 2))
	checkBroken(t, "the first one is not", running(x, slices.Concat(all, on(3, 3, 4, 6))...), broken(api.BrokenNear, 3, 0), broken(api.BrokenNear, 3, 2))
	checkBroken(t, "the only one is not", running(x, on(3, 5)...), broken(api.BrokenNear, 3, 0), broken(api.BrokenNear, 3, 1), broken(api.BrokenNear, 3, 2))
}

func TestFirmware(t *testing.T) {
	for firmware := range 5 {
		x := running(wide(), slices.Concat(on(1, 0, 1, 3, 5), on(2, 4))...)
		x.wish.Services[0].Firmware, x.wish.Services[1].Firmware, x.wish.Services[2].Firmware = 1000000, 3, 1
		for host, is := range []int{firmware, 4, 0, 3, 1, firmware, 2, 0} {
			x.world.Hosts[host].Firmware = is
		}
		var want []api.Broken
		if firmware < 3 {
			want = append(want, broken(api.BrokenFirmware, 1, 0), broken(api.BrokenFirmware, 1, 5))
		}
		checkBroken(t, "some firmware", x, want...)
	}
	x := running(wide(), at(0, 0), at(0, 7), at(3, 0))
	x.wish.Services[0].Firmware, x.wish.Services[3].Firmware = 1000000, 1
	x.world.Hosts[7].Firmware = 1000000
	checkBroken(t, "the greatest firmware", x, broken(api.BrokenFirmware, 0, 0), broken(api.BrokenFirmware, 3, 0))
}

// loaded returns the wide scene with a load on one host only.
func loaded(host, watts int) scene {
	x := wide()
	x.site.Hosts[host].Idle = watts
	return x
}

func TestBreakersFeedsAndLoops(t *testing.T) {
	for host, of := range [][3]int{{1, 0, 1}, {1, 0, 2}, {2, 2, 0}, {0, 2, 0}, {3, 1, 2}, {1, 0, 2}, {2, 2, 0}, {1, 0, 1}} { // the breaker, the feed and the loop of each host
		for load := 998; load <= 1002; load++ {
			x := loaded(host, load)
			var want []api.Broken
			if load > 1000 {
				want = append(want, broken(api.BrokenBreaker, of[0]), broken(api.BrokenFeed, of[1]), broken(api.BrokenLoop, of[2]))
			}
			checkBroken(t, "an idle host", x, want...)
			x.site.Breakers[of[0]].Limit = 1003
			checkBroken(t, "a greater breaker", x, slices.DeleteFunc(slices.Clone(want), func(b api.Broken) bool { return b.Kind == api.BrokenBreaker })...)
			x.world.Hosts[host].Phase = api.HostBroken
			checkBroken(t, "a broken host", x)
		}
	}
}

// A breaker bears its Limit, whatever its curve says; a loop its Carry, however late heat comes there.
func TestCurvesAndDelays(t *testing.T) {
	for _, slow := range []int{0, 50, 1000000} {
		for _, fast := range []int{0, 1000, 1000000} {
			x := loaded(4, 1000)
			x.site.Breakers[3].Slow, x.site.Breakers[3].Fast, x.site.Loops[2].Delay = slow, fast, slow%101
			checkBroken(t, "at the limits", x)
			x.site.Hosts[4].Idle = 1001
			checkBroken(t, "above the limits", x, broken(api.BrokenBreaker, 3), broken(api.BrokenFeed, 1), broken(api.BrokenLoop, 2))
		}
	}
}

// Loads are sums over hosts, with the cores in use of each.
func TestSumsOfLoads(t *testing.T) {
	for over := range 6 { // by how much a limit or another is less than a load
		x := running(wide(), slices.Concat(on(0, 1, 2, 5), on(1, 5))...)
		x.wish.Services[0].Cores, x.wish.Services[1].Cores = 3, 4
		for host := range x.site.Hosts {
			x.site.Hosts[host].Idle, x.site.Hosts[host].PerCore = 100+host, 10
		}
		x.site.Breakers[1].Limit = 100 + 131 + 175 + 107 // the hosts 0, 1, 5 and 7
		x.site.Breakers[2].Limit = 132 + 106             // the hosts 2 and 6
		x.site.Feeds[2].Limit = 132 + 103 + 106          // the hosts 2, 3 and 6
		x.site.Loops[1].Carry = 100 + 107                // the hosts 0 and 7
		x.site.Loops[2].Carry = 131 + 104 + 175          // the hosts 1, 4 and 5
		for i, limit := range []*int{&x.site.Breakers[1].Limit, &x.site.Breakers[2].Limit, &x.site.Feeds[2].Limit, &x.site.Loops[1].Carry, &x.site.Loops[2].Carry} {
			if i < over {
				*limit--
			}
		}
		want := []api.Broken{broken(api.BrokenBreaker, 1), broken(api.BrokenBreaker, 2), broken(api.BrokenFeed, 2), broken(api.BrokenLoop, 1), broken(api.BrokenLoop, 2)}
		checkBroken(t, "many hosts", x, want[:over]...)
	}
}

func TestEveryKindAtOnce(t *testing.T) {
	checkBroken(t, "mixed", mixed(), everyBroken()...)
}

func TestGreatest(t *testing.T) {
	hosts := []int{3, 11, 15}
	var cores, phases, spreads, aparts, firmwares []api.Broken
	for _, host := range hosts {
		cores = append(cores, broken(api.BrokenCores, host))
		phases = append(phases, broken(api.BrokenPhase, host))
	}
	for service := range 8 {
		spreads = append(spreads, broken(api.BrokenSpread, service, 3))
		for other := range 8 {
			if other != service {
				aparts = append(aparts, broken(api.BrokenApart, service, other))
			}
		}
		for _, host := range hosts {
			firmwares = append(firmwares, broken(api.BrokenFirmware, service, host))
		}
	}
	want := slices.Concat(cores, phases, spreads, aparts, firmwares)
	for _, kind := range []struct {
		of   api.BrokenKind
		many int
	}{{api.BrokenBreaker, 8}, {api.BrokenFeed, 4}, {api.BrokenLoop, 4}} {
		for i := range kind.many {
			want = append(want, broken(kind.of, i))
		}
	}
	checkBroken(t, "greatest", greatest(), want...)
}

// Loads can be greater than any limit.
func TestGreatestLimits(t *testing.T) {
	x := greatest()
	for i := range 8 {
		x.site.Breakers[i].Limit, x.site.Feeds[i%4].Limit, x.site.Loops[i%4].Carry = api.MaxNumber, api.MaxNumber, api.MaxNumber
	}
	got := invariant.Broken(x.site, x.wish, x.world)
	checkOf(t, got, api.BrokenBreaker, broken(api.BrokenBreaker, 3), broken(api.BrokenBreaker, 7))
	checkOf(t, got, api.BrokenFeed, broken(api.BrokenFeed, 3))
	checkOf(t, got, api.BrokenLoop, broken(api.BrokenLoop, 3))
}

func TestManyScenes(t *testing.T) {
	scenes := someScenes(1, 5000)
	holds := 0
	brokenIn := map[api.BrokenKind]int{}
	for _, x := range scenes {
		if !world.Valid(x.site, x.wish, x.world) {
			t.Fatalf("the world is not valid: %v", x)
		}
		want := brokenOf(x)
		checkBroken(t, "random", x, want...)
		if len(want) == 0 {
			holds++
		}
		for kind := range api.BrokenLoop + 1 {
			if slices.ContainsFunc(want, func(b api.Broken) bool { return b.Kind == kind }) {
				brokenIn[kind]++
			}
		}
	}
	for kind := api.BrokenCores; kind <= api.BrokenLoop; kind++ {
		if many := brokenIn[kind]; many < 300 || many > len(scenes)-300 {
			t.Errorf("the kind %d is broken in %d scenes of %d", kind, many, len(scenes))
		}
	}
	if holds < 100 {
		t.Errorf("nothing is broken in only %d scenes", holds)
	}
}

func TestInvalidWorlds(t *testing.T) {
	for name, x := range misfits() {
		if world.Valid(x.site, x.wish, x.world) {
			t.Errorf("%s: the world is valid", name)
		}
		checkRefused(t, name, x)
	}
	for name, x := range misfits() {
		x.world.Replicas, x.wish.Services = nil, nil // nothing could be broken, and some are valid now
		if !world.Valid(x.site, x.wish, x.world) {
			checkRefused(t, name, x)
		} else {
			checkBroken(t, name, x)
		}
	}
}

// P17.2: Kept, Of.

func TestKept(t *testing.T) {
	least, phase := broken(api.BrokenLeast), broken(api.BrokenPhase)
	apart, other, back := broken(api.BrokenApart, 1, 2), broken(api.BrokenApart, 1, 3), broken(api.BrokenApart, 2, 1)
	none, strange := api.Broken{}, api.Broken{Kind: 255, A: -1, B: 1 << 40}
	for _, x := range []struct {
		before, after []api.Broken
		want          api.Broken
		ok            bool
	}{
		{nil, nil, none, true},
		{[]api.Broken{least, phase}, nil, none, true},
		{[]api.Broken{least, phase}, []api.Broken{phase}, none, true},
		{[]api.Broken{least, phase}, []api.Broken{phase, least, phase}, none, true},
		{nil, []api.Broken{phase, least}, phase, false},
		{[]api.Broken{phase}, []api.Broken{phase, least}, least, false},
		{[]api.Broken{apart}, []api.Broken{apart, other, back}, other, false},
		{[]api.Broken{apart}, []api.Broken{back, apart, other}, back, false},
		{[]api.Broken{apart, back}, []api.Broken{back, apart, other, phase}, other, false},
		{[]api.Broken{least, least}, []api.Broken{least, apart, apart}, apart, false},
		{[]api.Broken{least}, []api.Broken{least, none, phase}, none, false},
		{[]api.Broken{none}, []api.Broken{none}, none, true},
		{nil, []api.Broken{strange}, strange, false},
		{[]api.Broken{{Kind: 255, A: -1}, {Kind: 255, B: 1 << 40}, {A: -1, B: 1 << 40}}, []api.Broken{strange}, strange, false},
		{[]api.Broken{strange}, []api.Broken{strange}, none, true},
		{[]api.Broken{}, []api.Broken{}, none, true},
	} {
		checkKept(t, x.before, x.after, x.want, x.ok)
	}
}

// randomList returns a list of invariants of which many are the same.
func randomList(r *rand.Rand) []api.Broken {
	l := make([]api.Broken, r.Intn(6))
	for i := range l {
		l[i] = api.Broken{Kind: api.BrokenKind(r.Intn(3)), A: r.Intn(2), B: r.Intn(2)}
	}
	return l
}

func TestKeptOfManyLists(t *testing.T) {
	r := rand.New(rand.NewSource(2))
	for range 5000 {
		before, after := randomList(r), randomList(r)
		want, ok := api.Broken{}, true
		for _, b := range slices.Backward(after) {
			if !slices.Contains(before, b) {
				want, ok = b, false
			}
		}
		checkKept(t, before, after, want, ok)
	}
}

// Long lists take no longer than they must.
func TestLongLists(t *testing.T) {
	var l []api.Broken
	for i := range 1 << 18 {
		l = append(l, broken(api.BrokenLeast, i))
	}
	checkKept(t, l, l, api.Broken{}, true)
	checkKept(t, l[:1<<18-1], l, l[1<<18-1], false)
	checkOf(t, l, api.BrokenLeast, l...)
	checkOf(t, l, api.BrokenSpread)
}

func TestOf(t *testing.T) {
	l := []api.Broken{{Kind: 3, A: 2}, {Kind: 1, A: 1}, {Kind: 3, A: 1, B: 7}, {Kind: 3, A: 2}, {Kind: 255}, {A: 5}}
	checkOf(t, l, 3, l[0], l[2], l[3])
	checkOf(t, l, 1, l[1])
	checkOf(t, l, 255, l[4])
	checkOf(t, l, api.BrokenNone, l[5])
	checkOf(t, l, 2)
	checkOf(t, l, 254)
	checkOf(t, nil, 3)
	checkOf(t, []api.Broken{}, api.BrokenNone)
	for kind := range api.BrokenLoop + 1 {
		var want []api.Broken
		for _, b := range everyBroken() {
			if b.Kind == kind {
				want = append(want, b)
			}
		}
		checkOf(t, everyBroken(), kind, want...)
	}
}
