package world_test

import (
	"math/rand"
	"slices"
	"testing"

	"majordomo/api"
	"majordomo/world"
)

// someWorlds are worlds whose replicas are strictly ascending, valid or not.
func someWorlds() []api.World {
	all := []api.World{{}, exampleWorld()}
	r := rand.New(rand.NewSource(5))
	for _, l := range someReplicas() {
		all = append(all, api.World{Hosts: randomStates(r, r.Intn(20)), Replicas: l})
	}
	for range 200 {
		all = append(all, randomWorld(r, r.Intn(9), 1+r.Intn(16)))
	}
	return all
}

// someChanges are replicas that may be started or stopped in a world: some that are there, and others.
func someChanges(r *rand.Rand, w api.World) []api.Replica {
	l := slices.Concat(wildReplicas(r, 5), pairs(2, 4), []api.Replica{{Service: 7, Host: 15}})
	for range min(len(w.Replicas), 8) {
		l = append(l, w.Replicas[r.Intn(len(w.Replicas))])
	}
	return l
}

// P13.5: the consequences.

func TestStopUndoesStart(t *testing.T) {
	r := rand.New(rand.NewSource(31))
	undone := 0
	for _, w := range someWorlds() {
		for _, x := range someChanges(r, w) {
			if after, e := world.Start(w, x); e == api.OK {
				checkStop(t, after, x, w, api.OK)
				undone++
			}
		}
	}
	if undone < 500 {
		t.Errorf("only %d Starts succeed", undone)
	}
}

func TestStartUndoesStop(t *testing.T) {
	r := rand.New(rand.NewSource(32))
	undone := 0
	for _, w := range someWorlds() {
		for _, x := range someChanges(r, w) {
			after, e := world.Stop(w, x)
			if e != api.OK || x.Service < 0 || x.Host < 0 || len(w.Replicas) > 24 {
				continue
			}
			checkStart(t, after, x, w, api.OK)
			undone++
		}
	}
	if undone < 500 {
		t.Errorf("only %d Stops are undone", undone)
	}
}

// change is Start or Stop.
type change func(api.World, api.Replica) (api.World, api.Errno)

// both makes two changes, one after the other.
func both(w api.World, first change, x api.Replica, then change, y api.Replica) (api.World, api.Errno) {
	w, e := first(w, x)
	if e != api.OK {
		return w, e
	}
	return then(w, y)
}

func TestOrderOfChangesDoesNotMatter(t *testing.T) {
	r := rand.New(rand.NewSource(33))
	succeed := map[string]int{}
	for _, w := range someWorlds() {
		some := someChanges(r, w)
		for _, x := range some {
			for _, y := range some {
				for name, then := range map[string]change{"Start": world.Start, "Stop": world.Stop} {
					a, e := both(w, world.Start, x, then, y)
					b, f := both(w, then, y, world.Start, x)
					if x == y || e != api.OK || f != api.OK {
						continue
					}
					succeed[name]++
					if !world.Same(a, b) {
						t.Errorf("%v: Start(%v) and %s(%v) give %v, in the other order %v", w, x, name, y, a, b)
					}
				}
			}
		}
	}
	if succeed["Start"] < 500 || succeed["Stop"] < 500 {
		t.Errorf("only %v succeed", succeed)
	}
}

func TestChangesAreSeen(t *testing.T) {
	r := rand.New(rand.NewSource(34))
	for _, w := range someWorlds() {
		for _, x := range someChanges(r, w) {
			if after, e := world.Start(w, x); e == api.OK && (world.Has(w, x) || !world.Has(after, x) || world.Runs(after, x.Service) != world.Runs(w, x.Service)+1) {
				t.Errorf("%v: Start(%v) gives %v", w, x, after)
			}
			if after, e := world.Stop(w, x); e == api.OK && (!world.Has(w, x) || world.Has(after, x) || world.Runs(after, x.Service) != world.Runs(w, x.Service)-1) {
				t.Errorf("%v: Stop(%v) gives %v", w, x, after)
			}
		}
	}
}

func TestWhatRunsInValidWorlds(t *testing.T) {
	r := rand.New(rand.NewSource(35))
	for range 1000 {
		wish, hosts := randomWish(r), 1+r.Intn(16)
		w := randomWorld(r, len(wish.Services), hosts)
		checkValid(t, "a random world", siteOf(hosts), wish, w, true)
		many := 0
		cores := 0
		for service, s := range wish.Services {
			many += world.Runs(w, service)
			cores += world.Runs(w, service) * s.Cores
			for _, host := range world.Where(w, service) {
				if host < 0 || host >= hosts || !world.Has(w, api.Replica{Service: service, Host: host}) {
					t.Errorf("%v: Where(%d) has %d", w, service, host)
				}
			}
		}
		for host := range hosts {
			cores -= world.Used(wish, w, host)
		}
		if many != len(w.Replicas) || cores != 0 {
			t.Errorf("%v: %d replicas run, and %d cores are not in use", w, many, cores)
		}
	}
}

func TestChangesOfValidWorldsAreValid(t *testing.T) {
	r := rand.New(rand.NewSource(36))
	for range 500 {
		wish, hosts := randomWish(r), 1+r.Intn(16)
		s, w := siteOf(hosts), randomWorld(r, len(wish.Services), hosts)
		for _, x := range pairs(len(wish.Services), hosts) {
			if after, e := world.Start(w, x); e == api.OK {
				checkValid(t, "after Start", s, wish, after, true)
			}
			if after, e := world.Stop(w, x); e == api.OK {
				checkValid(t, "after Stop", s, wish, after, true)
			}
		}
		after, e := world.Set(w, r.Intn(hosts), api.HostState{Phase: api.HostBroken, Firmware: 5})
		if e != api.OK {
			t.Errorf("%v: error %d of Set", w, e)
		}
		checkValid(t, "after Set", s, wish, after, true)
	}
}

// DOC.md, rules 2 to 5: nil and empty lists are the same, arguments stay as they are, results share no memory, equal arguments give equal results.

func TestNilAndEmpty(t *testing.T) {
	empty := api.World{Hosts: []api.HostState{}, Replicas: []api.Replica{}}
	checkSame(t, empty, api.World{}, true)
	checkWish(t, "empty", api.Wish{Services: []api.Service{}}, true)
	checkWish(t, "empty lists", api.Wish{Services: []api.Service{{Cores: 1, Apart: []int{}, Near: []api.Near{}}}}, true)
	three := api.World{Hosts: make([]api.HostState, 3), Replicas: []api.Replica{}}
	checkValid(t, "empty", exampleSite(), api.Wish{Services: []api.Service{}}, three, true)
	checkValid(t, "no hosts", api.Site{Hosts: []api.Host{}}, api.Wish{}, empty, false)
	for _, w := range []api.World{empty, {}} {
		checkStart(t, w, api.Replica{}, api.World{Replicas: pairs(1, 1)}, api.OK)
		checkStop(t, w, api.Replica{}, api.World{}, api.ErrNone)
		checkSet(t, w, 0, api.HostState{}, api.World{}, api.ErrArg)
		checkService(t, w, 0, nil)
	}
	checkSet(t, three, 2, api.HostState{Firmware: 1}, api.World{Hosts: []api.HostState{{}, {}, {Firmware: 1}}}, api.OK)
}

func TestMemoryOfArguments(t *testing.T) {
	r := rand.New(rand.NewSource(37))
	all := someWorlds()
	for _, l := range disorders() {
		all = append(all, api.World{Hosts: make([]api.HostState, 3), Replicas: l})
	}
	for _, w := range all {
		handed := copyOf(w)
		world.Valid(exampleSite(), exampleWish(), handed)
		world.Same(handed, handed)
		for _, x := range someChanges(r, w) {
			world.Runs(handed, x.Service)
			world.Has(handed, x)
			world.Used(exampleWish(), handed, x.Host)
			spoilHosts(world.Where(handed, x.Service))
			for _, change := range []change{world.Start, world.Stop} {
				after, _ := change(handed, x)
				spoil(after)
			}
			after, _ := world.Set(handed, 0, api.HostState{Firmware: 88})
			spoil(after)
		}
		checkUnspoilt(t, handed, w)
	}
}

func TestMemoryOfWishes(t *testing.T) {
	for name, wish := range goodWishes() {
		as := goodWishes()[name]
		world.ValidWish(wish)
		world.Valid(exampleSite(), wish, exampleWorld())
		world.Used(wish, exampleWorld(), 0)
		same := func(a, b api.Service) bool {
			lists := slices.Equal(a.Apart, b.Apart) && slices.Equal(a.Near, b.Near)
			return lists && a.Cores == b.Cores && a.Replicas == b.Replicas && a.Least == b.Least && a.Domain == b.Domain && a.Spread == b.Spread && a.Firmware == b.Firmware
		}
		if !slices.EqualFunc(wish.Services, as.Services, same) {
			t.Errorf("the wish %v was changed to %v", as, wish)
		}
	}
}

// What a caller changes in an argument afterwards has no effect on a result.
func TestResultsKeepNoArguments(t *testing.T) {
	for _, w := range []api.World{exampleWorld(), {Hosts: make([]api.HostState, 16), Replicas: pairs(3, 7)}} {
		x := api.Replica{Service: 2, Host: 9}
		started, _ := world.Start(w, x)
		stopped, _ := world.Stop(w, w.Replicas[1])
		set, _ := world.Set(w, 1, api.HostState{Firmware: 3})
		was := []api.World{copyOf(started), copyOf(stopped), copyOf(set)}
		spoil(w)
		for i, got := range []api.World{started, stopped, set} {
			if !areSame(got, was[i]) {
				t.Errorf("the result %v was changed to %v", was[i], got)
			}
		}
	}
}

func TestMemoryOfResults(t *testing.T) {
	r := rand.New(rand.NewSource(38))
	for _, w := range someWorlds() {
		for _, x := range someChanges(r, w) {
			for _, change := range []change{world.Start, world.Stop} {
				first, e := change(w, x)
				want := copyOf(first)
				spoil(first)
				got, gotE := change(w, x)
				checkWorld(t, "the second result", got, gotE, want, e)
			}
			want := slices.Clone(world.Where(w, x.Service))
			spoilHosts(world.Where(w, x.Service))
			checkService(t, w, x.Service, want)
		}
	}
}
