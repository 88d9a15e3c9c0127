package power_test

import (
	"testing"

	"majordomo/api"
	"majordomo/flow"
	"majordomo/world"
)

// P14.1: Watts, OfRack, OfBreaker, OfFeed.

func TestExamplesOfLoads(t *testing.T) {
	x := example()
	checkAll(t, x, loads{[]int{200, 200}, []int{200, 200}, []int{200, 200}, []int{400}})
	x.world.Hosts[0].Phase = api.HostBroken
	checkAll(t, x, loads{[]int{0, 200}, []int{0, 200}, []int{0, 200}, []int{200}})
}

func TestLoadsOfWideSite(t *testing.T) {
	checkAll(t, wide(), loads{
		[]int{10, 41, 35, 19, 0, 13},
		[]int{41, 35, 0, 19, 23},
		[]int{58, 41, 19, 0},
		[]int{41, 0, 77},
	})
}

func TestGreatestLoads(t *testing.T) {
	x := greatest()
	for _, host := range []int{0, 1, 2} {
		checkWatts(t, x, host, 8010000)
	}
	checkWatts(t, x, 3, 10000)
	checkRack(t, x, 7, 24160000)
	checkBreaker(t, x, 7, 24160000)
	checkFeed(t, x, 3, 24160000)
	checkRack(t, x, 6, 0)
	checkBreaker(t, x, 6, 0)
	checkFeed(t, x, 2, 0)
}

// Only a broken host takes nothing, with replicas or without.
func TestPhases(t *testing.T) {
	for phase := api.HostServing; phase <= api.HostBroken; phase++ {
		for _, replicas := range [][]api.Replica{nil, {{Host: 0}}, {{Host: 0}, {Host: 1}}} {
			x := example()
			x.world.Hosts[0].Phase, x.world.Replicas = phase, replicas
			want := 100 + 100*min(len(replicas), 1)
			if phase == api.HostBroken {
				want = 0
			}
			checkWatts(t, x, 0, want)
			checkRack(t, x, 0, want)
			checkBreaker(t, x, 0, want)
			checkFeed(t, x, 0, want+100+100*max(len(replicas)-1, 0))
		}
	}
}

// A host may have more cores in use than it has; each service counts.
func TestCoresInUse(t *testing.T) {
	x := example()
	x.site.Hosts[0].Cores = 1
	x.wish.Services = []api.Service{{Cores: 1}, {Cores: 10}, {Cores: 100}, {Cores: 1000}}
	for some := range 16 {
		x.world.Replicas = nil
		want := 100
		for service, cores := range []int{1, 10, 100, 1000} {
			if some>>service&1 == 1 {
				x.world.Replicas = append(x.world.Replicas, api.Replica{Service: service})
				want += 50 * cores
			}
		}
		checkWatts(t, x, 0, want)
		checkWatts(t, x, 1, 100)
	}
}

func TestPartsThatAreNotThere(t *testing.T) {
	for _, x := range someScenes(3, 50) {
		for _, n := range outside(0, len(x.site.Hosts)-1) {
			checkWatts(t, x, n, 0)
		}
		for _, n := range outside(0, len(x.site.Racks)-1) {
			checkRack(t, x, n, 0)
		}
		for _, n := range outside(0, len(x.site.Breakers)-1) {
			checkBreaker(t, x, n, 0)
			checkBears(t, x, n, 0)
		}
		for _, n := range outside(0, len(x.site.Feeds)-1) {
			checkFeed(t, x, n, 0)
		}
	}
}

func TestRandomLoads(t *testing.T) {
	for _, x := range someScenes(4, 3000) {
		if !world.Valid(x.site, x.wish, x.world) {
			t.Fatalf("the scene %v is not valid", x)
		}
		checkAll(t, x, loadsOf(x))
	}
}

// P14.1 to P14.3: worlds that are not valid.

func TestInvalidWorlds(t *testing.T) {
	for name, x := range misfits() {
		if world.Valid(x.site, x.wish, x.world) {
			t.Errorf("%s: the world is valid", name)
		}
		for n := -1; n <= 3; n++ {
			checkWatts(t, x, n, 0)
			checkRack(t, x, n, 0)
			checkBreaker(t, x, n, 0)
			checkFeed(t, x, n, 0)
			checkBears(t, x, n, 0)
		}
		checkNet(t, x, api.Net{})
		checkCarried(t, x, 0)
	}
}

// P14.2: Net, Carried.

func TestExamplesOfNets(t *testing.T) {
	x := example()
	checkNet(t, x, api.Net{Nodes: 7, Arcs: []api.Arc{
		{From: 0, To: 2, Cap: 300},
		{From: 2, To: 3, Cap: 200}, {From: 2, To: 4, Cap: 200},
		{From: 3, To: 5, Cap: 200}, {From: 4, To: 6, Cap: 200},
		{From: 5, To: 1, Cap: 200}, {From: 6, To: 1, Cap: 200},
	}})
	checkCarried(t, x, 300)
	x.world.Hosts[0].Phase = api.HostBroken
	checkCarried(t, x, 200)
}

func TestNetOfWideSite(t *testing.T) {
	checkNet(t, wide(), api.Net{Nodes: 14, Arcs: []api.Arc{
		{From: 0, To: 2, Cap: 50}, {From: 0, To: 3, Cap: 1000}, {From: 0, To: 4, Cap: 70},
		{From: 4, To: 5, Cap: 60}, {From: 2, To: 6, Cap: 45}, {From: 4, To: 7, Cap: 20}, {From: 4, To: 8, Cap: 9},
		{From: 6, To: 9, Cap: 41}, {From: 5, To: 10, Cap: 35}, {From: 6, To: 11, Cap: 0}, {From: 7, To: 12, Cap: 19}, {From: 5, To: 13, Cap: 23},
		{From: 9, To: 1, Cap: 41}, {From: 10, To: 1, Cap: 35}, {From: 11, To: 1, Cap: 0}, {From: 12, To: 1, Cap: 19}, {From: 13, To: 1, Cap: 23},
	}})
	checkCarried(t, wide(), 41+70)
}

func TestGreatestNet(t *testing.T) {
	x := greatest()
	checkNet(t, x, netOf(x))
	checkCarried(t, x, 1000000)
	x.site.Racks[7].Breaker = 0
	x.site.Breakers[0].Feed = 0
	x.site.Feeds[0].Limit = 999999
	checkCarried(t, x, 999999)
}

// A limit of a breaker or of a feed is kept to the watt.
func TestLimitsOfWhatIsCarried(t *testing.T) {
	for _, load := range []int{0, 1, 2, 999, 1000, 1001, 7777, 1000000, 1000001} {
		for _, limit := range []int{0, 1, load - 1, load, load + 1, 999999, 1000000} {
			if limit < 0 || limit > 1000000 {
				continue
			}
			checkCarried(t, single(1000000, load, api.Breaker{Limit: limit}), min(load, limit))
			checkCarried(t, single(limit, load, api.Breaker{Limit: 1000000}), min(load, limit))
		}
	}
}

func TestRandomNets(t *testing.T) {
	for _, x := range someScenes(5, 1000) {
		want := netOf(x)
		checkNet(t, x, want)
		value, _, e := flow.Max(want, 0, 1)
		if e != api.OK {
			t.Errorf("%v: error %d of the net", x, e)
		}
		checkCarried(t, x, value)
	}
}

// P14.3: Bears.

func TestExamplesOfBears(t *testing.T) {
	checkBears(t, example(), 0, -1)
	checkBears(t, example(), 1, -1)
	for b := range 4 {
		checkBears(t, wide(), b, -1)
	}
}

func TestOverloads(t *testing.T) {
	for _, c := range []struct {
		b           api.Breaker
		watts, want int
	}{
		{api.Breaker{Limit: 50, Slow: 40, Fast: 100}, 50, -1},
		{api.Breaker{Limit: 50, Slow: 40, Fast: 100}, 51, 40},
		{api.Breaker{Limit: 50, Slow: 40, Fast: 100}, 60, 4},
		{api.Breaker{Limit: 50, Slow: 40, Fast: 100}, 63, 3},
		{api.Breaker{Limit: 50, Slow: 40, Fast: 100}, 64, 2},
		{api.Breaker{Limit: 50, Slow: 40, Fast: 100}, 90, 1},
		{api.Breaker{Limit: 50, Slow: 40, Fast: 100}, 91, 0},
		{api.Breaker{Limit: 50, Slow: 100, Fast: 100}, 100, 2},
		{api.Breaker{Limit: 50, Slow: 100, Fast: 100}, 101, 0},
		{api.Breaker{Limit: 50, Slow: 100, Fast: 50}, 51, 0},
		{api.Breaker{Limit: 50, Slow: 0, Fast: 100}, 51, 0},
		{api.Breaker{Limit: 50, Slow: 0, Fast: 100}, 50, -1},
		{api.Breaker{}, 0, -1},
		{api.Breaker{}, 1, 0},
		{api.Breaker{Slow: 1000000, Fast: 1000000}, 1, 1000000},
		{api.Breaker{Limit: 1, Slow: 1000000, Fast: 1000000}, 1000000, 1},
		{api.Breaker{Slow: 1000000, Fast: 1000000}, 1000000, 1},
		{api.Breaker{Slow: 1000000, Fast: 1000000}, 1000001, 0},
		{api.Breaker{Limit: 1000000, Slow: 1000000, Fast: 1000000}, 1000001, 0},
		{api.Breaker{Limit: 1000000, Slow: 1000000, Fast: 1000000}, 1000000, -1},
	} {
		checkBears(t, single(0, c.watts, c.b), 0, c.want)
	}
}

// A Fast below the limit does not make a load trip that is at most the limit, and helps none above it.
func TestFastBelowLimit(t *testing.T) {
	for fast := range 51 {
		b := api.Breaker{Limit: 50, Slow: 40, Fast: fast}
		for _, watts := range []int{0, fast, fast + 1, 49, 50} {
			if watts <= 50 {
				checkBears(t, single(1000, watts, b), 0, -1)
			}
		}
		checkBears(t, single(1000, 51, b), 0, 0)
		checkBears(t, single(1000, 90, b), 0, 0)
	}
}

func TestBearsOfGreatestLoad(t *testing.T) {
	for b := range 7 {
		checkBears(t, greatest(), b, -1)
	}
	checkBears(t, greatest(), 7, 0)
}

func TestRandomBears(t *testing.T) {
	seen := map[int]int{}
	for _, x := range someScenes(6, 1000) {
		for i, load := range loadsOf(x).breakers {
			want := borne(x.site.Breakers[i], load)
			checkBears(t, x, i, want)
			seen[min(want, 3)]++
		}
	}
	for want := -1; want <= 3; want++ {
		if seen[want] < 20 {
			t.Errorf("%d is wanted only %d times", want, seen[want])
		}
	}
}
