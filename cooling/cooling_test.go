package cooling_test

import (
	"math/rand"
	"slices"
	"testing"

	"majordomo/api"
	"majordomo/linear"
	"majordomo/site"
	"majordomo/world"
)

// P15.1: Heat, Linear.

func TestExamplesOfHeat(t *testing.T) {
	x := example()
	checkHeat(t, x, 0, 400)
	checkHeat(t, x, 1, 0)
	x.site.Racks[1].Loop = 1
	checkHeat(t, x, 0, 200)
	checkHeat(t, x, 1, 200)
}

func TestHeatOfWideSite(t *testing.T) {
	for loop, want := range []int{10 + 35 + 13, 0, 41 + 19 + 0, 0} {
		checkHeat(t, wide(), loop, want)
	}
}

func TestGreatestHeat(t *testing.T) {
	for loop, want := range []int{0, 0, 0, 24160000} {
		checkHeat(t, greatest(), loop, want)
	}
}

// Only a broken host gives no heat, with replicas or without.
func TestPhases(t *testing.T) {
	for phase := api.HostServing; phase <= api.HostBroken; phase++ {
		for _, replicas := range [][]api.Replica{nil, {{Host: 0}}, {{Host: 1}}, {{Host: 0}, {Host: 1}}} {
			x := example()
			x.world.Hosts[0].Phase, x.world.Replicas = phase, replicas
			want := 200 + 100*len(replicas)
			if phase == api.HostBroken {
				want = 100
				if world.Has(x.world, api.Replica{Host: 1}) {
					want = 200
				}
			}
			checkHeat(t, x, 0, want)
		}
	}
}

func TestRandomHeats(t *testing.T) {
	for _, x := range someScenes(1, 2000) {
		if !world.Valid(x.site, x.wish, x.world) {
			t.Fatalf("the scene %v is not valid", x)
		}
		for loop, want := range heatsOf(x) {
			checkHeat(t, x, loop, want)
		}
	}
}

func TestLinearOfLoops(t *testing.T) {
	for _, carry := range []int{0, 1, 250, 999999, 1000000} {
		for delay := range 101 {
			s := example().site
			s.Loops = []api.Loop{{Carry: 77, Delay: 7}, {Carry: carry, Delay: delay}, {Carry: 88, Delay: 8}}
			checkLinear(t, s, 1, api.Linear{Carry: carry, Parts: []api.Part{{Source: 0, Times: 1, Delay: delay}}}, api.OK)
			checkLinear(t, s, 2, api.Linear{Carry: 88, Parts: []api.Part{{Source: 0, Times: 1, Delay: 8}}}, api.OK)
		}
	}
	for _, x := range someScenes(2, 100) {
		for loop, l := range x.site.Loops {
			checkLinear(t, x.site, loop, api.Linear{Carry: l.Carry, Parts: []api.Part{{Times: 1, Delay: l.Delay}}}, api.OK)
		}
	}
}

// P15.1 to P15.3: loops that are not there, and sites and worlds that are not valid.

func TestLoopsThatAreNotThere(t *testing.T) {
	for _, x := range append(someScenes(3, 50), single(api.Loop{Carry: 1}, 5)) {
		for _, loop := range notLoops(x.site) {
			checkHeat(t, x, loop, 0)
			checkLinear(t, x.site, loop, api.Linear{}, api.ErrArg)
			checkCourse(t, x.site, loop, 0, []int{1, 2}, 3, nil, api.ErrArg)
			checkCourse(t, x.site, loop, -1, []int{-1}, -1, nil, api.ErrArg)
			checkAfter(t, x, loop, 0, 0, 0, api.ErrArg)
			checkLongest(t, x, loop, 0, 0, 0, api.ErrArg)
			checkLongest(t, x, loop, 1, 0, 0, api.ErrArg)
		}
	}
}

// checkRefused checks the functions that ask for a world that is valid.
func checkRefused(t *testing.T, x scene) {
	t.Helper()
	for loop := -1; loop <= 5; loop++ {
		checkHeat(t, x, loop, 0)
		checkAfter(t, x, loop, 0, 0, 0, api.ErrArg)
		checkAfter(t, x, loop, 5, 2, 0, api.ErrArg)
		checkLongest(t, x, loop, 0, 0, 0, api.ErrArg)
		checkLongest(t, x, loop, 9, 8, 0, api.ErrArg)
	}
}

func TestInvalidSites(t *testing.T) {
	ofSite, _ := spoils()
	for name, x := range misfits(ofSite) {
		if site.Valid(x.site) {
			t.Errorf("%s: the site is valid", name)
		}
		checkRefused(t, x)
		for loop := -1; loop <= 5; loop++ {
			checkLinear(t, x.site, loop, api.Linear{}, api.ErrArg)
			checkCourse(t, x.site, loop, 0, []int{1, 2}, 3, nil, api.ErrArg)
			checkCourse(t, x.site, loop, -1, []int{-1}, 1001, nil, api.ErrArg)
		}
	}
}

func TestInvalidWorlds(t *testing.T) {
	_, ofRest := spoils()
	for name, x := range misfits(ofRest) {
		if world.Valid(x.site, x.wish, x.world) {
			t.Errorf("%s: the world is valid", name)
		}
		checkRefused(t, x)
		checkLinear(t, x.site, 0, api.Linear{Carry: 250, Parts: []api.Part{{Times: 1, Delay: 1}}}, api.OK) // the site is valid
		checkCourse(t, x.site, 0, 0, []int{400, 400}, 3, []int{0, 0, 150, 300}, api.OK)
	}
	checkRefused(t, scene{})
}

// P15.2: Course, After.

func TestCourses(t *testing.T) {
	s := example().site
	for _, c := range []struct {
		loop, start int
		heats       []int
		n           int
		want        []int
	}{
		{0, 0, nil, 0, []int{0}},
		{0, 7, []int{400}, 0, []int{7}},
		{0, 0, []int{400, 400, 400}, 3, []int{0, 0, 150, 300}},
		{0, 0, []int{400, 400}, 3, []int{0, 0, 150, 300}},
		{0, 0, []int{400}, 3, []int{0, 0, 150, 0}},
		{0, 0, []int{400, 400, 400, 400, 400}, 2, []int{0, 0, 150}},
		{0, 600, nil, 3, []int{600, 350, 100, 0}},
		{0, 600, []int{1000}, 3, []int{600, 350, 1100, 850}},
		{0, 100, []int{250, 250, 251}, 4, []int{100, 0, 0, 0, 1}},
		{1, 0, []int{75, 0, 80, 71}, 8, []int{0, 0, 0, 0, 5, 0, 10, 11, 0}},
		{1, 140, []int{70}, 4, []int{140, 70, 0, 0, 0}},
		{0, 100000000, []int{100000000}, 2, []int{100000000, 99999750, 199999500}},
	} {
		checkCourse(t, s, c.loop, c.start, c.heats, c.n, c.want, api.OK)
	}
}

// A start may be greater here than in After.
func TestErrorsOfCourse(t *testing.T) {
	s := example().site
	for _, start := range outside(api.MaxCap) {
		checkCourse(t, s, 0, start, nil, 1, nil, api.ErrRange)
	}
	for _, n := range outside(api.MaxTicks) {
		checkCourse(t, s, 0, 0, nil, n, nil, api.ErrRange)
	}
	for _, heat := range outside(api.MaxCap) {
		for at := range 4 {
			checkCourse(t, s, 1, 0, slices.Insert([]int{1, 2, 3}, at, heat), 1, nil, api.ErrRange)
		}
	}
	checkCourse(t, s, 0, 0, make([]int, 1001), 0, nil, api.ErrRange)
	checkCourse(t, s, 0, 0, make([]int, 1000), 0, []int{0}, api.OK)
	checkCourse(t, s, 0, 1000001, nil, 0, []int{1000001}, api.OK)
	checkCourse(t, s, 0, 0, nil, 1000, make([]int, 1001), api.OK)
}

// randomHeats returns a list of heats, most of which are near to what a loop carries.
func randomHeats(r *rand.Rand, l api.Loop, most int) []int {
	heats := make([]int, r.Intn(most+1))
	for t := range heats {
		heats[t] = r.Intn(l.Carry + 3)
		if r.Intn(3) == 0 {
			heats[t] += r.Intn(2*l.Carry + 5)
		}
	}
	return heats
}

func TestRandomCourses(t *testing.T) {
	r := rand.New(rand.NewSource(4))
	for i, x := range someScenes(5, 600) {
		ticks := 30
		if i%40 == 0 {
			ticks = api.MaxTicks
		}
		for loop, l := range x.site.Loops {
			heats, start, n := randomHeats(r, l, ticks), r.Intn(4*l.Carry+10), r.Intn(ticks+1)
			want := levelsOf(l, start, heats, n)
			checkCourse(t, x.site, loop, start, heats, n, want, api.OK)
			line := api.Linear{Carry: l.Carry, Parts: []api.Part{{Times: 1, Delay: l.Delay}}}
			if again, e := linear.Course(line, start, [][]int{heats}, n); e != api.OK || !slices.Equal(again, want) {
				t.Errorf("linear.Course(%v, %d, %v, %d) = %v, %d, want %v", line, start, heats, n, again, e, want)
			}
		}
	}
}

func TestExamplesOfAfter(t *testing.T) {
	for n, want := range []int{0, 0, 150, 300, 450} {
		checkAfter(t, example(), 0, 0, n, want, api.OK)
	}
	checkAfter(t, example(), 0, 500, 0, 500, api.OK)
	checkAfter(t, example(), 0, 500, 1, 250, api.OK)
	checkAfter(t, example(), 0, 500, 2, 400, api.OK)
	checkAfter(t, example(), 1, 500, 7, 10, api.OK)
	checkAfter(t, example(), 1, 500, 8, 0, api.OK)
}

func TestEdgesOfAfter(t *testing.T) {
	x := example()
	for _, start := range outside(api.MaxNumber) {
		checkAfter(t, x, 0, start, 0, 0, api.ErrArg)
		checkAfter(t, x, 1, start, 5, 0, api.ErrArg)
	}
	for _, n := range outside(api.MaxTicks) {
		checkAfter(t, x, 0, 0, n, 0, api.ErrArg)
		checkAfter(t, x, 1, 1000000, n, 0, api.ErrArg)
	}
	checkAfter(t, x, 0, 1000000, 0, 1000000, api.OK)
	checkAfter(t, x, 0, 1000000, 1000, 1000000-250+999*150, api.OK)
	checkAfter(t, x, 1, 1000000, 1000, 1000000-1000*70, api.OK)
	checkAfter(t, greatest(), 3, 1000000, 1000, 1000000+1000*24160000, api.OK)
	checkAfter(t, greatest(), 0, 1000000, 1, 0, api.OK)
}

// The heat begins in tick 0 and arrives Delay ticks later.
func TestDelays(t *testing.T) {
	for delay := range 101 {
		x := single(api.Loop{Carry: 3, Delay: delay}, 8)
		for n := range 220 {
			checkAfter(t, x, 0, 0, n, 5*max(0, n-delay), api.OK)
		}
		checkAfter(t, x, 0, 0, 1000, 5*(1000-delay), api.OK)
		checkLongest(t, x, 0, 0, 4, delay, api.OK)
		checkLongest(t, x, 0, 0, 5, delay+1, api.OK)
	}
}

func TestRandomAfter(t *testing.T) {
	r := rand.New(rand.NewSource(6))
	for _, x := range someScenes(7, 300) {
		heats := heatsOf(x)
		for loop, l := range x.site.Loops {
			for _, n := range []int{0, 1, l.Delay, l.Delay + 1, r.Intn(1001), 1000} {
				start := r.Intn(min(3*l.Carry+10, 1000000))
				checkAfter(t, x, loop, start, n, levelOf(l, start, heats[loop], n), api.OK)
			}
		}
	}
}

// P15.3: Longest.

func TestExamplesOfLongest(t *testing.T) {
	checkLongest(t, example(), 0, 0, 200, 2, api.OK)
	checkLongest(t, example(), 0, 300, 200, -1, api.OK)
}

func TestEdgesOfLongest(t *testing.T) {
	x := example()
	for _, limit := range outside(api.MaxNumber) {
		checkLongest(t, x, 0, 0, limit, 0, api.ErrArg)
		checkLongest(t, x, 1, 1000000, limit, 0, api.ErrArg)
	}
	for _, start := range outside(api.MaxNumber) {
		checkLongest(t, x, 0, start, 0, 0, api.ErrArg)
		checkLongest(t, x, 1, start, 1000000, 0, api.ErrArg)
		checkLongest(t, x, 1, start, -1, 0, api.ErrArg)
	}
	checkLongest(t, x, 0, 1000000, 0, -1, api.OK)
	checkLongest(t, x, 0, 1000000, 999999, -1, api.OK)
	checkLongest(t, x, 1, 1000000, 1000000, 1000, api.OK)
	checkLongest(t, greatest(), 3, 0, 1000000, 0, api.OK)
	checkLongest(t, greatest(), 3, 1000000, 1000000, 0, api.OK)
	checkLongest(t, greatest(), 2, 1000000, 1000000, 1000, api.OK)
	checkLongest(t, greatest(), 2, 0, 0, 1000, api.OK)
}

// A level may fall before it rises; what counts is the first tick above the limit, and a limit that is reached is kept.
func TestLimits(t *testing.T) {
	for _, c := range []struct {
		start, limit, want int
	}{
		{300, 299, -1}, {300, 300, 2}, {300, 349, 2}, {300, 350, 3}, // the levels 300, 50, 200, 350, 500
		{0, 0, 1}, {0, 149, 1}, {0, 150, 2}, {0, 151, 2}, {0, 299, 2}, {0, 300, 3}, // the levels 0, 0, 150, 300
		{1, 0, -1}, {1, 1, 1}, {250, 250, 2}, {251, 251, 2},
	} {
		checkLongest(t, example(), 0, c.start, c.limit, c.want, api.OK)
	}
	x := single(api.Loop{}, 1) // the level is the tick
	for _, limit := range []int{0, 1, 2, 500, 998, 999, 1000, 1001, 999999, 1000000} {
		checkLongest(t, x, 0, 0, limit, min(limit, 1000), api.OK)
	}
	x = single(api.Loop{Carry: 5}, 4) // the level falls
	for start := range 4 {
		for limit := range 4 {
			want := 1000
			if start > limit {
				want = -1
			}
			checkLongest(t, x, 0, start, limit, want, api.OK)
		}
	}
}

// longest reads the chapter a second time: it asks for the level of each number of ticks.
func longest(l api.Loop, start, heat, limit int) int {
	n := 0
	for n <= api.MaxTicks && levelOf(l, start, heat, n) <= limit {
		n++
	}
	return n - 1
}

func TestRandomLongest(t *testing.T) {
	r := rand.New(rand.NewSource(8))
	seen := map[string]int{}
	for _, x := range someScenes(9, 400) {
		heats := heatsOf(x)
		for loop, l := range x.site.Loops {
			start := r.Intn(min(3*l.Carry+10, 1000000))
			near := levelOf(l, start, heats[loop], r.Intn(1001))
			for _, limit := range []int{0, start - 1, start, near - 1, near, near + 1, r.Intn(1000001)} {
				if limit < 0 || limit > 1000000 {
					continue
				}
				want := longest(l, start, heats[loop], limit)
				checkLongest(t, x, loop, start, limit, want, api.OK)
				switch {
				case want == -1:
					seen["never"]++
				case want < 1000:
					seen["for some ticks"]++
				default:
					seen["always"]++
				}
			}
		}
	}
	for _, kind := range []string{"never", "for some ticks", "always"} {
		if seen[kind] < 300 {
			t.Errorf("the limit is kept %s only %d times", kind, seen[kind])
		}
	}
}
