package breaker_test

import (
	"math"
	"math/rand"
	"slices"
	"testing"

	"majordomo/api"
	"majordomo/breaker"
)

// P7.6: the consequences.

func lastsOf(t *testing.T, b api.Breaker, heat, watts int) int {
	t.Helper()
	n, e := breaker.Lasts(b, heat, watts)
	if e != api.OK {
		t.Fatalf("Lasts(%v, %d, %d): error %d", b, heat, watts, e)
	}
	return n
}

func tripsOf(t *testing.T, b api.Breaker, heat int, watts []int) int {
	t.Helper()
	at, e := breaker.Trips(b, heat, watts)
	if e != api.OK {
		t.Fatalf("Trips(%v, %d, %v): error %d", b, heat, watts, e)
	}
	return at
}

func courseOf(t *testing.T, b api.Breaker, s api.BreakerState, watts []int) []api.BreakerState {
	t.Helper()
	l, e := breaker.Course(b, s, watts)
	if e != api.OK {
		t.Fatalf("Course(%v, %v, %v): error %d", b, s, watts, e)
	}
	return l
}

// curves returns curves with small and with great numbers.
func curves(seed int64) []api.Breaker {
	r := rand.New(rand.NewSource(seed))
	l := append(tinyCurves(), example(), curve(0, most, most), curve(most, most, most), curve(most, 0, most), curve(0, 0, most))
	for range 500 {
		l = append(l, randomCurve(r, 99), randomCurve(r, most))
	}
	return l
}

func TestUpToLimitForEver(t *testing.T) {
	r := rand.New(rand.NewSource(6))
	for _, b := range curves(7) {
		for _, heat := range []int{0, b.Slow / 2, b.Slow, r.Intn(b.Slow + 1)} {
			for _, watts := range []int{0, b.Limit / 2, max(0, b.Limit-1), b.Limit, r.Intn(b.Limit + 1)} {
				checkLasts(t, b, heat, watts, -1)
				checkTrips(t, b, heat, slices.Repeat([]int{watts}, 30), -1)
			}
		}
		for _, watts := range []int{b.Limit + 1, b.Fast + 1, mostW, b.Limit + 1 + r.Intn(most)} {
			if n := lastsOf(t, b, 0, watts); n < 0 || n > b.Slow {
				t.Errorf("Lasts(%v, 0, %d) = %d", b, watts, n)
			}
		}
	}
}

// sooner reports whether the index at which a breaker trips is less than another one.
func sooner(at, than int) bool { return at >= 0 && (than < 0 || at < than) }

func TestLessTripsNoSooner(t *testing.T) {
	r := rand.New(rand.NewSource(8))
	for _, a := range randomAsks(9) {
		less := slices.Clone(a.watts)
		for i := range less {
			if r.Intn(3) == 0 {
				less[i] -= r.Intn(less[i]%7 + 1)
			}
		}
		heat := r.Intn(a.state.Heat + 1)
		is := tripsOf(t, a.breaker, a.state.Heat, a.watts)
		for _, at := range []int{tripsOf(t, a.breaker, a.state.Heat, less), tripsOf(t, a.breaker, heat, a.watts), tripsOf(t, a.breaker, heat, less)} {
			if sooner(at, is) {
				t.Errorf("%v trips at %d from %d with %v, but at %d with less (from %d, %v)", a.breaker, is, a.state.Heat, a.watts, at, heat, less)
			}
		}
	}
}

func TestBearsIsAtLeastWhatLasts(t *testing.T) {
	r := rand.New(rand.NewSource(10))
	for _, b := range curves(11) {
		for range 10 {
			heat, ticks := randomHeat(r, b), []int{1, 2, 3, 1 + r.Intn(20), 1 + r.Intn(api.MaxTicks), api.MaxTicks}[r.Intn(6)]
			greatest, e := breaker.Bears(b, heat, ticks)
			if e != api.OK {
				t.Fatalf("Bears(%v, %d, %d): error %d", b, heat, ticks, e)
			}
			for _, watts := range []int{0, b.Limit, b.Limit + 1, b.Fast, b.Fast + 1, mostW, randomLoad(r, b), max(0, greatest-1), greatest, greatest + 1} {
				n := lastsOf(t, b, heat, watts)
				if want := n == -1 || n >= ticks; want != (greatest >= watts) {
					t.Errorf("Bears(%v, %d, %d) = %d, but %d lasts %d", b, heat, ticks, greatest, watts, n)
				}
			}
		}
	}
}

func TestOneListAfterTheOther(t *testing.T) {
	r := rand.New(rand.NewSource(12))
	for _, a := range randomAsks(13) {
		both := courseOf(t, a.breaker, a.state, a.watts)
		cut := r.Intn(len(a.watts) + 1)
		first := courseOf(t, a.breaker, a.state, a.watts[:cut])
		second := courseOf(t, a.breaker, first[cut], a.watts[cut:])
		if !slices.Equal(slices.Concat(first, second[1:]), both) {
			t.Errorf("Course(%v, %v, %v) is %v, but %v and %v if it is cut at %d", a.breaker, a.state, a.watts, both, first, second, cut)
		}
	}
	hottest := courseOf(t, curve(0, most, most), cold(most), []int{mostW}) // the state after it can be handed in
	checkCourse(t, curve(0, most, most), hottest[1], []int{0, mostW}, slices.Repeat([]api.BreakerState{tripped(mostW)}, 3))
}

// DOC.md, rule 1 and P1: invalid arguments, in the order of the errors.

// answer is all that a call returns; what its function does not have is zero.
type answer struct {
	state  api.BreakerState
	course []api.BreakerState
	number int
	e      api.Errno
}

func (a answer) is(b answer) bool {
	return a.state == b.state && slices.Equal(a.course, b.course) && a.number == b.number && a.e == b.e
}

// call is a call of a function; knows names what of an ask it uses beside the breaker: state or heat, load or loads, ticks.
type call struct {
	name  string
	knows []string
	with  func(a ask) answer
}

func (c call) knowsOne(what ...string) bool {
	return slices.ContainsFunc(what, func(w string) bool { return slices.Contains(c.knows, w) })
}

func calls() []call {
	return []call{
		{"Next", []string{"state", "load"}, func(a ask) answer {
			s, e := breaker.Next(a.breaker, a.state, a.load())
			return answer{state: s, e: e}
		}},
		{"Course", []string{"state", "loads"}, func(a ask) answer {
			l, e := breaker.Course(a.breaker, a.state, a.watts)
			return answer{course: l, e: e}
		}},
		{"Trips", []string{"heat", "loads"}, func(a ask) answer {
			n, e := breaker.Trips(a.breaker, a.state.Heat, a.watts)
			return answer{number: n, e: e}
		}},
		{"Lasts", []string{"heat", "load"}, func(a ask) answer {
			n, e := breaker.Lasts(a.breaker, a.state.Heat, a.load())
			return answer{number: n, e: e}
		}},
		{"Cools", []string{"heat", "load"}, func(a ask) answer {
			n, e := breaker.Cools(a.breaker, a.state.Heat, a.load())
			return answer{number: n, e: e}
		}},
		{"Bears", []string{"heat", "ticks"}, func(a ask) answer {
			n, e := breaker.Bears(a.breaker, a.state.Heat, a.ticks)
			return answer{number: n, e: e}
		}},
	}
}

// checkNothing checks that a call gives an error and nothing else.
func checkNothing(t *testing.T, c call, a ask, want api.Errno) {
	t.Helper()
	if got := c.with(a); !got.is(answer{e: want}) || len(got.course) != 0 {
		t.Errorf("%s of %v from %v with %d loads and %d ticks, though %s is not valid: %v, want nothing, %d", c.name, a.breaker, a.state, len(a.watts), a.ticks, a.why, got, want)
	}
}

// strangeAsks returns asks that are ErrRange for a call if the breaker is valid.
func strangeAsks(c call, b api.Breaker) []ask {
	var l []ask
	if c.knowsOne("heat") {
		for _, heat := range append(outside(0, b.Slow), mostW) {
			l = append(l, ask{"the heat", b, cold(heat), nil, 1}, ask{"the heat and what comes with it", b, cold(heat), []int{-1}, 0})
		}
	}
	if c.knowsOne("load", "loads") {
		for _, watts := range strangeLoads() {
			if c.knowsOne("load") && watts[0] >= 0 && watts[0] <= mostW {
				continue
			}
			l = append(l, ask{"a load", b, cold(0), watts, 1}, ask{"a load", b, cold(max(0, b.Slow)), watts, 1})
			if c.knowsOne("state") {
				l = append(l, ask{"a load", b, tripped(mostW), watts, 1})
			}
		}
	}
	if c.knowsOne("loads") {
		for _, watts := range longLists() {
			l = append(l, ask{"the number of loads", b, cold(0), watts, 1})
		}
	}
	if c.knowsOne("ticks") {
		for _, ticks := range outside(1, api.MaxTicks) {
			l = append(l, ask{"the number of ticks", b, cold(0), nil, ticks}, ask{"the number of ticks", b, cold(max(0, b.Slow)), nil, ticks})
		}
	}
	return l
}

func someCurves() []api.Breaker {
	return []api.Breaker{{}, example(), curve(50, 0, 50), curve(0, most, most), curve(most, most, most), {Feed: -3, Limit: 2, Slow: 1, Fast: 9}}
}

func TestOutOfRange(t *testing.T) {
	for _, b := range someCurves() {
		for _, c := range calls() {
			for _, a := range strangeAsks(c, b) {
				checkNothing(t, c, a, api.ErrRange)
			}
		}
	}
}

func TestStrangeCurves(t *testing.T) {
	for _, s := range strangeCurves() {
		for _, c := range calls() {
			for _, state := range []api.BreakerState{cold(0), cold(1), tripped(0), tripped(mostW), cold(s.breaker.Slow), cold(s.breaker.Slow + 1)} {
				checkNothing(t, c, ask{s.why, s.breaker, state, []int{1, 2}, 4}, api.ErrArg)
			}
		}
	}
}

func TestStrangeStates(t *testing.T) {
	for _, b := range someCurves() {
		for _, c := range calls() {
			if !c.knowsOne("state") {
				continue
			}
			for _, s := range strangeStates(b.Slow) {
				checkNothing(t, c, ask{"the state", b, s, nil, 1}, api.ErrArg)
				checkNothing(t, c, ask{"the state", b, s, []int{0, 1}, 1}, api.ErrArg)
			}
		}
	}
}

// What is ErrArg comes before what is ErrRange, also where both apply.
func TestOrderOfErrors(t *testing.T) {
	for _, c := range calls() {
		for _, s := range strangeCurves() {
			for _, a := range strangeAsks(c, s.breaker) {
				a.why = s.why
				checkNothing(t, c, a, api.ErrArg)
			}
		}
		if !c.knowsOne("state") {
			continue
		}
		for _, b := range someCurves() {
			for _, s := range strangeStates(b.Slow) {
				for _, a := range strangeAsks(c, b) {
					a.why, a.state = "the state", s
					checkNothing(t, c, a, api.ErrArg)
				}
			}
		}
	}
}

// A number at the end of its range is no error.
func TestEndsOfRanges(t *testing.T) {
	for _, b := range someCurves() {
		for _, c := range calls() {
			for _, watts := range [][]int{nil, {0}, {mostW}, {mostW, 0, mostW}, make([]int, api.MaxTicks), slices.Repeat([]int{mostW}, api.MaxTicks)} {
				for _, ticks := range []int{1, 2, api.MaxTicks - 1, api.MaxTicks} {
					for _, s := range []api.BreakerState{cold(0), cold(b.Slow), tripped(0), tripped(b.Slow), tripped(mostW)} {
						if s.Heat > b.Slow && c.knowsOne("heat") {
							continue
						}
						if got := c.with(ask{"", b, s, watts, ticks}); got.e != api.OK {
							t.Errorf("%s of %v from %v with %d loads and %d ticks: error %d", c.name, b, s, len(watts), ticks, got.e)
						}
					}
				}
			}
		}
	}
}

// DOC.md, rules 2 to 5: nil and empty lists are the same, arguments stay as they are, results share no memory, equal arguments give equal results.

func TestNilAndEmpty(t *testing.T) {
	for _, b := range append(someCurves(), curve(-1, 0, 0)) {
		for _, s := range []api.BreakerState{cold(0), cold(b.Slow), cold(b.Slow + 1), tripped(7)} {
			for _, c := range calls() {
				none, empty := c.with(ask{"", b, s, nil, 1}), c.with(ask{"", b, s, []int{}, 1})
				if !none.is(empty) {
					t.Errorf("%s of %v from %v: %v with nil, %v with an empty list", c.name, b, s, none, empty)
				}
			}
		}
	}
}

// spoil changes all the memory of a course.
func spoil(l []api.BreakerState) {
	l = l[:cap(l)]
	for i := range l {
		l[i].Heat -= 7777
		l[i].Tripped = !l[i].Tripped
	}
}

func checkMemory(t *testing.T, c call, a ask) {
	t.Helper()
	handed := a
	roomy := append(slices.Clone(a.watts), 77, 77)
	handed.watts = roomy[:len(a.watts)]
	first := c.with(handed)
	want := first
	want.course = slices.Clone(first.course)
	second := c.with(handed)
	if !second.is(want) {
		t.Errorf("%s of %v differs when it is called again: %v and %v", c.name, a, want, second)
	}
	spoil(first.course)
	if !second.is(want) {
		t.Errorf("%s of %v: two results share memory", c.name, a)
	}
	if !slices.Equal(roomy, append(slices.Clone(a.watts), 77, 77)) {
		t.Errorf("%s changed the loads of %v, or shares them", c.name, a)
	}
}

func TestMemory(t *testing.T) {
	asks := append(randomAsks(14)[:600],
		ask{"", example(), tripped(50), []int{1, 2, 3}, 2}, ask{"", example(), cold(3), []int{1, -2, 3}, 2},
		ask{"", example(), cold(41), []int{1, 2, 3}, 2}, ask{"", curve(2, 3, 1), cold(0), []int{1, 2, 3}, 2}, ask{"", example(), cold(3), nil, math.MaxInt})
	for _, c := range calls() {
		for _, a := range asks {
			checkMemory(t, c, a)
		}
	}
}

// TestCoursesAreTheirOwn checks that what is done with a state of a course has no effect on what is computed after it.
func TestCoursesAreTheirOwn(t *testing.T) {
	first := courseOf(t, example(), cold(0), []int{70, 30})
	second := courseOf(t, example(), first[2], []int{60})
	spoil(first)
	if want := []api.BreakerState{cold(0), cold(10)}; !slices.Equal(second, want) {
		t.Errorf("a course that goes on after another one is %v, want %v", second, want)
	}
}
