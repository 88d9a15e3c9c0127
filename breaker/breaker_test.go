package breaker_test

import (
	"math"
	"math/rand"
	"slices"
	"testing"

	"majordomo/api"
	"majordomo/breaker"
)

// P7.1: Valid and Next.

func TestValid(t *testing.T) {
	for _, b := range []api.Breaker{
		{}, example(), curve(0, 0, most), curve(0, most, 0), curve(0, most, most), curve(most, 0, most), curve(most, most, most),
		curve(50, 40, 50), curve(50, 0, 51), curve(most-1, most-1, most-1), curve(1, 1, 1), curve(0, 100, 1), curve(most-1, 1, most),
		{Feed: -1}, {Feed: 4, Limit: 50, Slow: 40, Fast: 100}, {Feed: math.MinInt, Limit: 1, Fast: 2}, {Feed: math.MaxInt, Limit: 1, Fast: 1},
	} {
		if !breaker.Valid(b) {
			t.Errorf("not valid: %v", b)
		}
	}
	for _, s := range strangeCurves() {
		for _, feed := range []int{0, -1, math.MaxInt} {
			s.breaker.Feed = feed
			if breaker.Valid(s.breaker) {
				t.Errorf("valid, though %s is not: %v", s.why, s.breaker)
			}
		}
	}
}

func checkNext(t *testing.T, b api.Breaker, s api.BreakerState, watts int, want api.BreakerState) {
	t.Helper()
	if got, e := breaker.Next(b, s, watts); got != want || e != api.OK {
		t.Errorf("Next(%v, %v, %d) = %v, %d, want %v, OK", b, s, watts, got, e, want)
	}
}

func TestNext(t *testing.T) {
	for _, c := range []struct {
		breaker api.Breaker
		state   api.BreakerState
		watts   int
		want    api.BreakerState
	}{
		{example(), cold(30), 55, cold(35)},
		{example(), cold(30), 61, tripped(41)},
		{example(), cold(30), 60, cold(40)}, // exactly Slow
		{example(), cold(30), 10, cold(0)},
		{example(), cold(30), 20, cold(0)}, // exactly 0
		{example(), cold(30), 21, cold(1)},
		{example(), cold(30), 0, cold(0)},
		{example(), cold(30), 50, cold(30)}, // exactly Limit
		{example(), cold(30), 51, cold(31)},
		{example(), cold(30), 49, cold(29)},
		{example(), cold(0), 101, tripped(51)},
		{example(), cold(0), 100, tripped(50)}, // exactly Fast, but too hot
		{example(), cold(0), 90, cold(40)},
		{example(), cold(0), 91, tripped(41)},
		{example(), cold(40), 50, cold(40)},
		{example(), cold(40), 51, tripped(41)},
		{example(), cold(40), 0, cold(0)},
		{example(), tripped(41), 0, tripped(41)}, // what has tripped neither cools
		{example(), tripped(41), 60, tripped(41)},
		{example(), tripped(41), mostW, tripped(41)},
		{example(), tripped(0), 0, tripped(0)},
		{example(), tripped(20), 50, tripped(20)},
		{example(), tripped(mostW), 0, tripped(mostW)},
		{example(), tripped(mostW), mostW, tripped(mostW)},
		{curve(50, 400, 60), cold(5), 60, cold(15)}, // exactly Fast, and not too hot
		{curve(50, 400, 60), cold(5), 61, tripped(16)},
		{curve(50, 400, 50), cold(5), 50, cold(5)}, // no room between Limit and Fast
		{curve(50, 400, 50), cold(5), 51, tripped(6)},
		{curve(50, 0, 60), cold(0), 50, cold(0)}, // no heat is borne
		{curve(50, 0, 60), cold(0), 51, tripped(1)},
		{curve(0, 40, 10), cold(30), 0, cold(30)}, // no load cools
		{curve(0, 40, 10), cold(30), 10, cold(40)},
		{curve(0, 40, 10), cold(31), 10, tripped(41)},
		{curve(0, 0, 0), cold(0), 0, cold(0)},
		{curve(0, 0, 0), cold(0), 1, tripped(1)},
		{curve(most, most, most), cold(most), most, cold(most)},
		{curve(most, most, most), cold(most), 0, cold(0)},
		{curve(most, most, most), cold(most), most + 1, tripped(most + 1)},
		{curve(most, most, most), cold(0), mostW, tripped(mostW - most)},
		{curve(0, most, most), cold(0), most, cold(most)},
		{curve(0, most, most), cold(1), most, tripped(most + 1)},
		{curve(0, most, most), cold(0), mostW - 1, tripped(mostW - 1)},
		{curve(0, most, most), cold(0), mostW, tripped(mostW)}, // as hot as can be told
		{curve(0, most, most), cold(1), mostW, tripped(mostW)}, // hotter
		{curve(0, most, most), cold(most), mostW, tripped(mostW)},
		{curve(7, 9, 9), cold(6), mostW, tripped(mostW - 1)},
		{curve(7, 9, 9), cold(9), mostW, tripped(mostW)},
	} {
		checkNext(t, c.breaker, c.state, c.watts, c.want)
		c.breaker.Feed = -7
		checkNext(t, c.breaker, c.state, c.watts, c.want)
	}
}

func TestNextOfTinyBreakers(t *testing.T) {
	for _, b := range tinyCurves() {
		for watts := range b.Fast + 3 {
			for heat := range b.Slow + 1 {
				checkNext(t, b, cold(heat), watts, after(b, cold(heat), watts))
			}
			for heat := range b.Slow + 3 {
				checkNext(t, b, tripped(heat), watts, tripped(heat))
			}
		}
	}
}

// P7.2: Course and Trips.

func checkCourse(t *testing.T, b api.Breaker, s api.BreakerState, watts []int, want []api.BreakerState) {
	t.Helper()
	if got, e := breaker.Course(b, s, watts); !slices.Equal(got, want) || e != api.OK {
		t.Errorf("Course(%v, %v, %v) = %v, %d, want %v, OK", b, s, watts, got, e, want)
	}
}

func checkTrips(t *testing.T, b api.Breaker, heat int, watts []int, want int) {
	t.Helper()
	if got, e := breaker.Trips(b, heat, watts); got != want || e != api.OK {
		t.Errorf("Trips(%v, %d, %v) = %d, %d, want %d, OK", b, heat, watts, got, e, want)
	}
}

// sample is loads, with the answers.
type sample struct {
	breaker api.Breaker
	heat    int
	watts   []int
	heats   []int // after each load
	trips   int
}

func samples() []sample {
	return []sample{
		{example(), 0, []int{70, 70, 30, 71}, []int{20, 40, 20, 41}, 3}, // the last one
		{example(), 0, []int{70, 70, 30, 70}, []int{20, 40, 20, 40}, -1},
		{example(), 0, []int{70, 71, 30, 71, 0}, []int{20, 41, 41, 41, 41}, 1}, // a middle one
		{example(), 0, []int{91, 0, 0, 101}, []int{41, 41, 41, 41}, 0},         // the first one
		{example(), 0, []int{101}, []int{51}, 0},                               // the only one, above Fast
		{example(), 0, []int{90}, []int{40}, -1},
		{example(), 40, []int{51}, []int{41}, 0},
		{example(), 40, []int{50, 50, 50, 51}, []int{40, 40, 40, 41}, 3},
		{example(), 40, nil, nil, -1},
		{example(), 0, nil, nil, -1},
		{example(), 40, []int{0, 90, 10, 90, 9, 91}, []int{0, 40, 0, 40, 0, 41}, 5},
		{example(), 7, []int{0, 0, 0}, []int{0, 0, 0}, -1},
		{curve(50, 40, 60), 0, []int{60, 60, 60, 60, 60}, []int{10, 20, 30, 40, 50}, 4},
		{curve(50, 40, 60), 0, []int{60, 61, 0, 60}, []int{10, 21, 21, 21}, 1}, // above Fast, and not too hot
		{curve(50, 40, 60), 40, []int{0, 0, 61}, []int{0, 0, 11}, 2},
		{curve(50, 40, 50), 30, []int{50, 49, 51, 0}, []int{30, 29, 30, 30}, 2},
		{curve(50, 0, 60), 0, []int{50, 0, 50, 51, 0}, []int{0, 0, 0, 1, 1}, 3},
		{curve(0, 3, 2), 0, []int{1, 0, 2, 0, 1}, []int{1, 1, 3, 3, 4}, 4},
		{curve(0, 0, 0), 0, []int{0, 0, 1, 1}, []int{0, 0, 1, 1}, 2},
		{curve(0, most, most), most, []int{0, mostW, 0, mostW}, []int{most, mostW, mostW, mostW}, 1},
		{curve(most, most, most), most, []int{most, 0, most + 1}, []int{most, 0, 1}, 2},
		{curve(most, most, most), 0, []int{mostW}, []int{mostW - most}, 0},
	}
}

func TestCourseAndTrips(t *testing.T) {
	for _, s := range samples() {
		want := []api.BreakerState{cold(s.heat)}
		for i, heat := range s.heats {
			want = append(want, api.BreakerState{Heat: heat, Tripped: s.trips >= 0 && i >= s.trips})
		}
		checkCourse(t, s.breaker, cold(s.heat), s.watts, want)
		checkTrips(t, s.breaker, s.heat, s.watts, s.trips)
	}
}

func TestCourseOfWhatHasTripped(t *testing.T) {
	for _, heat := range []int{0, 1, 40, 41, mostW - 1, mostW} {
		for _, watts := range [][]int{nil, {0}, {0, 50, 100, 101}, {mostW}, make([]int, api.MaxTicks)} {
			want := slices.Repeat([]api.BreakerState{tripped(heat)}, len(watts)+1)
			checkCourse(t, example(), tripped(heat), watts, want)
		}
	}
}

func TestCourseAndTripsOfRandomLoads(t *testing.T) {
	counts := map[string]int{}
	for _, a := range randomAsks(1) {
		want := walk(a.breaker, a.state, a.watts)
		checkCourse(t, a.breaker, a.state, a.watts, want)
		at := slices.IndexFunc(want[1:], hasTripped)
		checkTrips(t, a.breaker, a.state.Heat, a.watts, at)
		switch {
		case at < 0:
			counts["none"]++
		case at == 0:
			counts["the first"]++
		case at == len(a.watts)-1:
			counts["the last"]++
		default:
			counts["a middle one"]++
		}
	}
	for _, which := range []string{"none", "the first", "the last", "a middle one"} {
		if counts[which] < 100 {
			t.Errorf("too few loads to try it: with %s, %d lists trip", which, counts[which])
		}
	}
}

func TestCourseAndTripsOfManyLoads(t *testing.T) {
	b := curve(50, api.MaxTicks, 51)
	for heat, at := range map[int]int{0: -1, 1: 999, 2: 998, 500: 500, 999: 1, 1000: 0} {
		watts := slices.Repeat([]int{51}, api.MaxTicks)
		checkTrips(t, b, heat, watts, at)
		checkCourse(t, b, cold(heat), watts, walk(b, cold(heat), watts))
	}
	last := append(make([]int, api.MaxTicks-1), 52) // above Fast
	checkTrips(t, b, 0, last, 999)
	want := append(make([]api.BreakerState, api.MaxTicks), tripped(2))
	checkCourse(t, b, cold(0), last, want)
}

// P7.3: Lasts.

func checkLasts(t *testing.T, b api.Breaker, heat, watts, want int) {
	t.Helper()
	if got, e := breaker.Lasts(b, heat, watts); got != want || e != api.OK {
		t.Errorf("Lasts(%v, %d, %d) = %d, %d, want %d, OK", b, heat, watts, got, e, want)
	}
}

func TestLasts(t *testing.T) {
	for _, c := range []struct {
		breaker           api.Breaker
		heat, watts, want int
	}{
		{example(), 0, 60, 4}, {example(), 35, 60, 0}, {example(), 40, 50, -1}, {example(), 0, 101, 0},
		{example(), 1, 60, 3}, {example(), 10, 60, 3}, {example(), 11, 60, 2}, {example(), 30, 60, 1}, {example(), 31, 60, 0},
		{example(), 0, 51, 40}, {example(), 39, 51, 1}, {example(), 40, 51, 0}, {example(), 40, 0, -1}, {example(), 0, 50, -1},
		{example(), 0, 90, 1}, {example(), 0, 91, 0}, {example(), 0, 100, 0}, {example(), 0, mostW, 0}, {example(), 40, mostW, 0},
		{curve(50, 400, 60), 0, 60, 40}, {curve(50, 400, 60), 0, 61, 0}, {curve(50, 400, 60), 400, 60, 0}, // held down by Fast
		{curve(50, 400, 50), 0, 50, -1}, {curve(50, 400, 50), 400, 50, -1}, {curve(50, 400, 50), 0, 51, 0}, // no room
		{curve(50, 0, 60), 0, 50, -1}, {curve(50, 0, 60), 0, 51, 0},
		{curve(0, 40, 10), 0, 0, -1}, {curve(0, 40, 10), 40, 0, -1}, {curve(0, 40, 10), 0, 10, 4}, {curve(0, 40, 10), 0, 1, 40},
		{curve(0, 0, 0), 0, 0, -1}, {curve(0, 0, 0), 0, 1, 0},
		{curve(0, most, most), 0, 1, most}, {curve(0, most, most), 1, 1, most - 1}, {curve(0, most, most), most, 1, 0},
		{curve(0, most, most), 0, 2, most / 2}, {curve(0, most, most), 0, most, 1}, {curve(0, most, most), 1, most, 0}, {curve(0, most, most), 0, most + 1, 0},
		{curve(most-1, most, most), 0, most, most}, {curve(most-1, most, most), most, most, 0},
		{curve(most, most, most), most, most, -1}, {curve(most, most, most), 0, most + 1, 0}, {curve(most, most, most), 0, mostW, 0},
	} {
		checkLasts(t, c.breaker, c.heat, c.watts, c.want)
	}
}

func TestLastsTickByTick(t *testing.T) {
	for _, b := range tinyCurves() {
		for heat := range b.Slow + 1 {
			for watts := range b.Fast + 3 {
				checkLasts(t, b, heat, watts, lasts(b, heat, watts))
			}
		}
	}
	r := rand.New(rand.NewSource(2))
	for range 300 {
		b := randomCurve(r, 3000)
		for range 5 {
			heat, watts := randomHeat(r, b), randomLoad(r, b)
			checkLasts(t, b, heat, watts, lasts(b, heat, watts))
		}
	}
	b := curve(7, most, 9)
	for _, watts := range []int{7, 8, 9} {
		checkLasts(t, b, 0, watts, lasts(b, 0, watts))
	}
}

// P7.4: Cools.

func checkCools(t *testing.T, b api.Breaker, heat, watts, want int) {
	t.Helper()
	if got, e := breaker.Cools(b, heat, watts); got != want || e != api.OK {
		t.Errorf("Cools(%v, %d, %d) = %d, %d, want %d, OK", b, heat, watts, got, e, want)
	}
}

func TestCools(t *testing.T) {
	for _, c := range []struct {
		breaker           api.Breaker
		heat, watts, want int
	}{
		{example(), 30, 40, 3}, {example(), 31, 40, 4}, {example(), 30, 50, -1}, {example(), 0, 90, 0},
		{example(), 29, 40, 3}, {example(), 21, 40, 3}, {example(), 20, 40, 2}, {example(), 1, 40, 1}, {example(), 10, 40, 1}, {example(), 11, 40, 2},
		{example(), 40, 49, 40}, {example(), 1, 49, 1}, {example(), 40, 0, 1}, {example(), 40, 10, 1}, {example(), 40, 11, 2}, {example(), 1, 0, 1},
		{example(), 0, 0, 0}, {example(), 0, 50, 0}, {example(), 0, 101, 0}, {example(), 0, mostW, 0}, // it is 0 already
		{example(), 1, 50, -1}, {example(), 1, 51, -1}, {example(), 40, 51, -1}, {example(), 1, 101, -1}, {example(), 1, mostW, -1}, // it trips before
		{curve(50, 0, 60), 0, 0, 0}, {curve(50, 0, 60), 0, 60, 0},
		{curve(0, 40, 10), 0, 0, 0}, {curve(0, 40, 10), 1, 0, -1}, {curve(0, 40, 10), 40, 0, -1},
		{curve(50, 400, 50), 400, 0, 8}, {curve(50, 400, 50), 400, 1, 9}, {curve(50, 400, 50), 400, 51, -1},
		{curve(0, 0, 0), 0, 0, 0}, {curve(0, 0, 0), 0, 1, 0}, {curve(1, most, 1), most, 0, most}, {curve(1, most, 1), most, 1, -1},
		{curve(most, most, most), most, 0, 1}, {curve(most, most, most), most, 1, 2}, {curve(most, most, most), most, most - 1, most},
		{curve(most, most, most), most, most, -1}, {curve(most, most, most), most, most - 2, most / 2}, {curve(most, most, most), most - 1, most - 2, most / 2}, {curve(most, most, most), most - 2, most - 2, most/2 - 1},
	} {
		checkCools(t, c.breaker, c.heat, c.watts, c.want)
	}
}

func TestCoolsTickByTick(t *testing.T) {
	for _, b := range tinyCurves() {
		for heat := range b.Slow + 1 {
			for watts := range b.Fast + 3 {
				checkCools(t, b, heat, watts, cools(b, heat, watts))
			}
		}
	}
	r := rand.New(rand.NewSource(3))
	for range 300 {
		b := randomCurve(r, 3000)
		for range 5 {
			heat, watts := randomHeat(r, b), randomLoad(r, b)
			checkCools(t, b, heat, watts, cools(b, heat, watts))
		}
	}
	b := curve(7, most, 9)
	for _, watts := range []int{5, 6, 7, 8} {
		checkCools(t, b, most, watts, cools(b, most, watts))
	}
}

// P7.5: Bears.

func checkBears(t *testing.T, b api.Breaker, heat, ticks, want int) {
	t.Helper()
	if got, e := breaker.Bears(b, heat, ticks); got != want || e != api.OK {
		t.Errorf("Bears(%v, %d, %d) = %d, %d, want %d, OK", b, heat, ticks, got, e, want)
	}
}

func TestBears(t *testing.T) {
	for _, c := range []struct {
		breaker           api.Breaker
		heat, ticks, want int
	}{
		{example(), 0, 1, 90}, {example(), 0, 3, 63}, {example(), 39, 2, 50}, {curve(50, 40, 70), 0, 1, 70},
		{example(), 0, 2, 70}, {example(), 0, 4, 60}, {example(), 1, 4, 59}, {example(), 0, 39, 51}, {example(), 0, 40, 51}, {example(), 0, 41, 50}, {example(), 0, 1000, 50},
		{example(), 39, 1, 51}, {example(), 40, 1, 50}, {example(), 40, 1000, 50},
		{curve(50, 40, 70), 0, 2, 70}, {curve(50, 40, 70), 0, 3, 63}, {curve(50, 40, 70), 1, 2, 69}, // from 2 ticks on held down by Slow
		{curve(50, 40, 90), 0, 1, 90}, {curve(50, 40, 89), 0, 1, 89}, {curve(50, 40, 91), 0, 1, 90},
		{curve(50, 400, 50), 0, 1, 50}, {curve(50, 400, 50), 400, 1000, 50}, {curve(50, 0, 60), 0, 1, 50}, {curve(50, 0, 60), 0, 1000, 50},
		{curve(0, 40, 10), 0, 1, 10}, {curve(0, 40, 10), 0, 4, 10}, {curve(0, 40, 10), 0, 5, 8}, {curve(0, 40, 10), 40, 1, 0}, {curve(0, 40, 10), 0, 41, 0},
		{curve(0, 0, 0), 0, 1, 0}, {curve(0, most, 0), 0, 1, 0}, {curve(0, 0, most), 0, 1, 0},
		{curve(0, most, most), 0, 1, most}, {curve(0, most, most), 0, 2, most / 2}, {curve(0, most, most), 0, 1000, most / 1000}, {curve(0, most, most), 1, 1000, most/1000 - 1}, {curve(0, most, most), most, 1, 0},
		{curve(most, most, most), 0, 1, most}, {curve(most, most, most), most, 1000, most}, {curve(most-1, most, most), 0, 1000, most}, {curve(most-1, most, most), most, 1, most - 1},
		{curve(0, 1000, most), 0, 1000, 1}, {curve(0, 999, most), 0, 1000, 0}, {curve(0, 1999, most), 0, 1000, 1},
	} {
		checkBears(t, c.breaker, c.heat, c.ticks, c.want)
	}
}

func TestBearsOfEachLoad(t *testing.T) {
	for _, b := range tinyCurves() {
		for heat := range b.Slow + 1 {
			for _, ticks := range []int{1, 2, 3, 4, 5, 6, 7, 8, 999, 1000} {
				checkBears(t, b, heat, ticks, bears(b, heat, ticks))
			}
		}
	}
	r := rand.New(rand.NewSource(4))
	for range 300 {
		b := randomCurve(r, 60)
		heat, ticks := randomHeat(r, b), 1+r.Intn(70)
		checkBears(t, b, heat, ticks, bears(b, heat, ticks))
	}
}

// TestBearsAtItsEnd checks for great numbers that the load is borne, and that one watt more is not.
func TestBearsAtItsEnd(t *testing.T) {
	r := rand.New(rand.NewSource(5))
	for range 3000 {
		b := randomCurve(r, most)
		heat, ticks := randomHeat(r, b), 1+r.Intn(20)
		if r.Intn(10) == 0 {
			ticks = 1 + r.Intn(api.MaxTicks)
		}
		load, e := breaker.Bears(b, heat, ticks)
		if e != api.OK {
			t.Fatalf("Bears(%v, %d, %d): error %d", b, heat, ticks, e)
		}
		for more, want := range []bool{false, true} {
			states := walk(b, cold(heat), slices.Repeat([]int{load + more}, ticks))
			if got := states[ticks].Tripped; got != want {
				t.Errorf("Bears(%v, %d, %d) = %d, but with %d it is %v that it trips", b, heat, ticks, load, load+more, got)
			}
		}
	}
}
