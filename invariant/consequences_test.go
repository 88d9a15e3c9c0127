package invariant_test

import (
	"math/rand"
	"reflect"
	"slices"
	"testing"

	"majordomo/api"
	"majordomo/invariant"
	"majordomo/world"
)

// P17.3: what starting and stopping replicas breaks.

// keptByStops are the kinds that stopping a replica does not break anew.
func keptByStops() []api.BrokenKind {
	return []api.BrokenKind{api.BrokenCores, api.BrokenSpread, api.BrokenApart, api.BrokenFirmware, api.BrokenBreaker, api.BrokenFeed, api.BrokenLoop}
}

// brokenAnew returns the kinds of which something is broken in another world of a scene that was not broken before.
func brokenAnew(x scene, after api.World) []api.BrokenKind {
	was, is := invariant.Broken(x.site, x.wish, x.world), invariant.Broken(x.site, x.wish, after)
	var kinds []api.BrokenKind
	for kind := api.BrokenCores; kind <= api.BrokenLoop; kind++ {
		if _, ok := invariant.Kept(invariant.Of(was, kind), invariant.Of(is, kind)); !ok {
			kinds = append(kinds, kind)
		}
	}
	return kinds
}

// checkNotBroken checks that none of the kinds is among those that are broken anew, and counts these.
func checkNotBroken(t *testing.T, x scene, after api.World, kept []api.BrokenKind, many map[api.BrokenKind]int) {
	t.Helper()
	for _, kind := range brokenAnew(x, after) {
		many[kind]++
		if slices.Contains(kept, kind) {
			t.Errorf("%v to %v: the kind %d is broken anew", x, after, kind)
		}
	}
}

// checkCounted checks that each kind was broken anew exactly if it can be.
func checkCounted(t *testing.T, many map[api.BrokenKind]int, never []api.BrokenKind) {
	t.Helper()
	for kind := api.BrokenCores; kind <= api.BrokenLoop; kind++ {
		if isNever := slices.Contains(never, kind); isNever != (many[kind] == 0) {
			t.Errorf("the kind %d was broken anew %d times", kind, many[kind])
		}
	}
}

func TestStartOnServingHost(t *testing.T) {
	many := map[api.BrokenKind]int{}
	never := []api.BrokenKind{api.BrokenLeast, api.BrokenPhase}
	for _, x := range someScenes(3, 300) {
		for service := range x.wish.Services {
			for host, state := range x.world.Hosts {
				after, e := world.Start(x.world, at(service, host))
				if e == api.OK && state.Phase == api.HostServing {
					checkNotBroken(t, x, after, never, many)
				}
			}
		}
	}
	checkCounted(t, many, never)
}

// On a host that does not serve, only Least cannot be broken; a draining host lets what is there run on.
func TestStartOnOtherHosts(t *testing.T) {
	for _, phase := range []api.Phase{api.HostDraining, api.HostEmpty, api.HostTesting, api.HostBroken} {
		x := wide()
		x.world.Hosts[2].Phase = phase
		after, e := world.Start(x.world, at(0, 2))
		isKept := len(brokenAnew(x, after)) == 0
		if e != api.OK || isKept != (phase == api.HostDraining) {
			t.Errorf("phase %d: %v, %d", phase, brokenAnew(x, after), e)
		}
	}
}

func TestStop(t *testing.T) {
	many := map[api.BrokenKind]int{}
	never := append(keptByStops(), api.BrokenPhase)
	for _, x := range someScenes(4, 1000) {
		for _, r := range x.world.Replicas {
			after, e := world.Stop(x.world, r)
			if e != api.OK {
				t.Fatalf("Stop(%v, %v) is %d", x.world, r, e)
			}
			checkNotBroken(t, x, after, never, many)
		}
	}
	checkCounted(t, many, never)
}

// What a wish asks of loads is kept by every part of the replicas of a world that keeps it.
func TestPartsOfReplicas(t *testing.T) {
	r := rand.New(rand.NewSource(5))
	for _, x := range someScenes(6, 1000) {
		for range 5 {
			after := api.World{Hosts: x.world.Hosts}
			for _, replica := range x.world.Replicas {
				if r.Intn(3) > 0 {
					after.Replicas = append(after.Replicas, replica)
				}
			}
			checkNotBroken(t, x, after, keptByStops(), map[api.BrokenKind]int{})
		}
	}
}

// P17.4: Kept is reflexive and transitive.

func TestKeptOfItself(t *testing.T) {
	r := rand.New(rand.NewSource(7))
	for range 1000 {
		l := randomList(r)
		checkKept(t, l, l, api.Broken{}, true)
	}
	checkKept(t, everyBroken(), everyBroken(), api.Broken{}, true)
}

func TestKeptFollows(t *testing.T) {
	r := rand.New(rand.NewSource(8))
	followed := 0
	for range 20000 {
		a, b, c := randomList(r), randomList(r), randomList(r)
		_, ab := invariant.Kept(a, b)
		_, bc := invariant.Kept(b, c)
		if ab && bc {
			checkKept(t, a, c, api.Broken{}, true)
			followed++
		}
	}
	if followed < 500 {
		t.Errorf("only %d lists followed", followed)
	}
}

// Of all kinds together is the list itself, if that is in their order, as Broken gives it.
func TestKindsTogether(t *testing.T) {
	for _, x := range someScenes(9, 300) {
		all := invariant.Broken(x.site, x.wish, x.world)
		var together []api.Broken
		for kind := range api.BrokenLoop + 1 {
			together = append(together, invariant.Of(all, kind)...)
		}
		if !slices.Equal(all, together) {
			t.Errorf("Broken is %v, by kinds %v", all, together)
		}
	}
}

// Neither how many replicas are wished for matters, nor the curves of breakers, the delays of loops, and the order and ends of links.
func TestWhatDoesNotMatter(t *testing.T) {
	r := rand.New(rand.NewSource(10))
	for _, x := range someScenes(11, 500) {
		want := brokenOf(x)
		other := copyOf(x)
		free := 24
		for _, s := range other.wish.Services {
			free -= s.Replicas
		}
		for i := range other.wish.Services {
			other.wish.Services[i].Replicas += min(free, 1)
			free = max(0, free-1)
		}
		for i := range other.site.Breakers {
			other.site.Breakers[i].Slow, other.site.Breakers[i].Fast = r.Intn(1000001), r.Intn(1000001)
		}
		for i := range other.site.Loops {
			other.site.Loops[i].Delay = r.Intn(101)
		}
		slices.Reverse(other.site.Links)
		for i, l := range other.site.Links {
			other.site.Links[i].A, other.site.Links[i].B = l.B, l.A
		}
		checkBroken(t, "changed", other, want...)
	}
}

// DOC.md, rules 2 to 5: nil and empty lists are the same, arguments stay as they are, results share no memory, equal arguments give equal results.

func TestNilAndEmpty(t *testing.T) {
	x := running(example(), at(0, 0), at(0, 2))
	x.site.Links, x.wish.Services[0].Apart, x.wish.Services[0].Near = []api.Link{}, []int{}, []api.Near{}
	checkBroken(t, "empty lists", x)
	x.world.Replicas = []api.Replica{}
	checkBroken(t, "no replicas", x, broken(api.BrokenLeast, 0))
	x.wish.Services = []api.Service{}
	checkBroken(t, "no services", x)
	checkRefused(t, "nothing", scene{
		api.Site{Feeds: []api.Feed{}, Breakers: []api.Breaker{}, Loops: []api.Loop{}, Racks: []api.Rack{}, Links: []api.Link{}, Hosts: []api.Host{}},
		api.Wish{Services: []api.Service{}},
		api.World{Hosts: []api.HostState{}, Replicas: []api.Replica{}},
	})
}

// roomy returns a list in memory of its own, with room behind its elements, where there is a filler.
func roomy[T any](l []T, filler T) []T {
	return append(slices.Clone(l), filler)[:len(l)]
}

// copyOf returns a scene in memory of its own, with room behind its lists.
func copyOf(x scene) scene {
	s := &x.site
	s.Feeds, s.Breakers, s.Loops = roomy(s.Feeds, api.Feed{Limit: 77}), roomy(s.Breakers, api.Breaker{Limit: 77}), roomy(s.Loops, api.Loop{Carry: 77})
	s.Racks, s.Links, s.Hosts = roomy(s.Racks, api.Rack{Row: 77}), roomy(s.Links, api.Link{A: 77}), roomy(s.Hosts, api.Host{Idle: 77})
	x.wish.Services = roomy(x.wish.Services, api.Service{Cores: 77})
	for i := range x.wish.Services {
		service := &x.wish.Services[i]
		service.Apart, service.Near = roomy(service.Apart, 77), roomy(service.Near, api.Near{Latency: 77})
	}
	x.world.Hosts, x.world.Replicas = roomy(x.world.Hosts, api.HostState{Firmware: 77}), roomy(x.world.Replicas, api.Replica{Host: 77})
	return x
}

// areSame reports whether two lists with room are the same, with their room.
func areSame[T comparable](a, b []T) bool {
	return len(a) == len(b) && slices.Equal(a[:len(a)+1], b[:len(b)+1])
}

// areSameScenes reports whether two scenes that copyOf returned are the same, with the room of their lists.
func areSameScenes(x, y scene) bool {
	if !reflect.DeepEqual(x, y) {
		return false
	}
	for i, service := range x.wish.Services {
		if !areSame(service.Apart, y.wish.Services[i].Apart) || !areSame(service.Near, y.wish.Services[i].Near) {
			return false
		}
	}
	s, as := x.site, y.site
	return areSame(s.Feeds, as.Feeds) && areSame(s.Breakers, as.Breakers) && areSame(s.Loops, as.Loops) && areSame(s.Racks, as.Racks) && areSame(s.Links, as.Links) && areSame(s.Hosts, as.Hosts) &&
		areSame(x.world.Hosts, y.world.Hosts) && areSame(x.world.Replicas, y.world.Replicas)
}

// spoil changes all memory of a list that was returned, also behind it.
func spoil(l []api.Broken) {
	for i := range l[:cap(l)] {
		l[:cap(l)][i] = api.Broken{Kind: 99, A: 7777, B: 7777}
	}
}

func TestMemoryOfScenes(t *testing.T) {
	all := append(someScenes(12, 200), running(mixed()))
	for _, x := range misfits() {
		all = append(all, x)
	}
	for _, x := range all {
		given := copyOf(x)
		first := invariant.Broken(given.site, given.wish, given.world)
		second := invariant.Broken(given.site, given.wish, given.world)
		if !slices.Equal(first, second) {
			t.Errorf("Broken is %v, and then %v", first, second)
		}
		want := slices.Clone(first)
		spoil(second)
		holds := invariant.Holds(given.site, given.wish, given.world)
		if third := invariant.Broken(given.site, given.wish, given.world); !slices.Equal(first, want) || !slices.Equal(third, want) {
			t.Errorf("Broken was %v, is %v, and then %v", want, first, third)
		}
		if again := invariant.Holds(given.site, given.wish, given.world); again != holds {
			t.Errorf("Holds is %t, and then %t", holds, again)
		}
		if !areSameScenes(given, copyOf(x)) {
			t.Errorf("the scene was changed from %v to %v", x, given)
		}
	}
}

func TestMemoryOfLists(t *testing.T) {
	r := rand.New(rand.NewSource(13))
	filler := broken(77, 77, 77)
	for range 500 {
		l, m := randomList(r), randomList(r)
		before, after := roomy(l, filler), roomy(m, filler)
		invariant.Kept(before, after)
		for kind := range api.BrokenKind(4) {
			first := invariant.Of(before, kind)
			want := slices.Clone(first)
			spoil(invariant.Of(before, kind))
			if !slices.Equal(first, want) {
				t.Errorf("Of was %v, and is %v", want, first)
			}
			checkOf(t, before, kind, want...)
			spoil(first)
			checkOf(t, before, kind, want...)
		}
		if !areSame(before, roomy(l, filler)) || !areSame(after, roomy(m, filler)) {
			t.Errorf("the lists %v and %v were changed to %v and %v", l, m, before, after)
		}
	}
}
