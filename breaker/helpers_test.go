package breaker_test

import (
	"math"
	"math/rand"
	"slices"

	"majordomo/api"
)

const (
	most  = api.MaxNumber // of a Limit, a Slow and a Fast
	mostW = api.MaxCap    // of a load, and of the heat of a breaker that has tripped
)

func curve(limit, slow, fast int) api.Breaker {
	return api.Breaker{Limit: limit, Slow: slow, Fast: fast}
}

// example is the breaker of the chapter's examples.
func example() api.Breaker { return curve(50, 40, 100) }

func cold(heat int) api.BreakerState { return api.BreakerState{Heat: heat} }

func tripped(heat int) api.BreakerState { return api.BreakerState{Heat: heat, Tripped: true} }

// after returns the state after a tick, as the chapter defines it.
func after(b api.Breaker, s api.BreakerState, watts int) api.BreakerState {
	if s.Tripped {
		return s
	}
	heat := s.Heat + watts - b.Limit
	if heat < 0 {
		heat = 0
	}
	if watts > b.Fast || heat > b.Slow {
		s.Tripped = true
	}
	s.Heat = min(heat, mostW)
	return s
}

// walk returns a state and the one after each load.
func walk(b api.Breaker, s api.BreakerState, watts []int) []api.BreakerState {
	l := []api.BreakerState{s}
	for _, w := range watts {
		s = after(b, s, w)
		l = append(l, s)
	}
	return l
}

func hasTripped(s api.BreakerState) bool { return s.Tripped }

// lasts returns what Lasts should, tick by tick: a load that is above Limit heats by 1 at least.
func lasts(b api.Breaker, heat, watts int) int {
	s := cold(heat)
	for tick := range b.Slow + 2 {
		if s = after(b, s, watts); s.Tripped {
			return tick
		}
	}
	return -1
}

// cools returns what Cools should, tick by tick: a load that is below Limit cools by 1 at least.
func cools(b api.Breaker, heat, watts int) int {
	s := cold(heat)
	for tick := range b.Slow + 2 {
		if s.Tripped {
			return -1
		}
		if s.Heat == 0 {
			return tick
		}
		s = after(b, s, watts)
	}
	return -1
}

// bears returns what Bears should: it tries one load after the other.
func bears(b api.Breaker, heat, ticks int) int {
	greatest := -1
	for watts := range b.Fast + 2 {
		if n := lasts(b, heat, watts); n == -1 || n >= ticks {
			greatest = watts
		}
	}
	return greatest
}

// tinyCurves returns all curves with small numbers, with and without room between Limit and Fast.
func tinyCurves() []api.Breaker {
	var l []api.Breaker
	for limit := range 5 {
		for slow := range 7 {
			for room := range 7 {
				l = append(l, curve(limit, slow, limit+room))
			}
		}
	}
	return l
}

// randomCurve returns a curve whose numbers are at most so great; often one of them is at its end.
func randomCurve(r *rand.Rand, greatest int) api.Breaker {
	b := curve(r.Intn(greatest+1), r.Intn(greatest+1), 0)
	if r.Intn(8) == 0 {
		b.Limit = greatest * r.Intn(2)
	}
	if r.Intn(8) == 0 {
		b.Slow = greatest * r.Intn(2)
	}
	b.Fast = b.Limit + r.Intn(greatest-b.Limit+1)
	if r.Intn(8) == 0 {
		b.Fast = b.Limit
	}
	b.Feed = r.Intn(9) - 4
	return b
}

// randomHeat returns a heat, often one at the end of what is allowed.
func randomHeat(r *rand.Rand, b api.Breaker) int {
	return []int{0, b.Slow, r.Intn(b.Slow + 1), r.Intn(b.Slow + 1), r.Intn(b.Slow + 1)}[r.Intn(5)]
}

// randomLoad returns a load that is mostly not far from Limit.
func randomLoad(r *rand.Rand, b api.Breaker) int {
	switch r.Intn(12) {
	case 0:
		return b.Limit
	case 1:
		return b.Fast
	case 2:
		return min(b.Limit+1, b.Fast)
	case 3:
		return max(0, b.Limit-1)
	case 4:
		return 0
	}
	return max(0, min(b.Fast, b.Limit+r.Intn(b.Slow+2)-b.Slow/2))
}

// ask is what the functions are asked with; those that know no state use its heat, and those that know one load the first one.
type ask struct {
	why     string
	breaker api.Breaker
	state   api.BreakerState
	watts   []int
	ticks   int
}

func (a ask) load() int {
	if len(a.watts) == 0 {
		return 0
	}
	return a.watts[0]
}

// randomAsk returns an ask; its loads are mostly small, and sometimes one trips at once.
func randomAsk(r *rand.Rand, greatest, count int) ask {
	b := randomCurve(r, greatest)
	a := ask{"a random one", b, cold(randomHeat(r, b)), make([]int, r.Intn(count+1)), 1 + r.Intn(count)}
	for i := range a.watts {
		a.watts[i] = randomLoad(r, b)
		if r.Intn(2) == 0 {
			a.watts[i] = max(0, b.Limit-r.Intn(b.Slow+1))
		}
	}
	if len(a.watts) > 0 && r.Intn(3) == 0 {
		a.watts[r.Intn(len(a.watts))] = []int{b.Fast + 1, mostW, r.Intn(mostW + 1)}[r.Intn(3)]
	}
	return a
}

func randomAsks(seed int64) []ask {
	r := rand.New(rand.NewSource(seed))
	var l []ask
	for i := range 3000 {
		l = append(l, randomAsk(r, 9, 12), randomAsk(r, most, 12))
		if i%50 == 0 {
			l = append(l, randomAsk(r, 99, api.MaxTicks), randomAsk(r, most, api.MaxTicks))
		}
	}
	return l
}

// outside returns numbers that are not from a least to a greatest one.
func outside(least, greatest int) []int {
	return []int{least - 1, greatest + 1, -greatest - 1, math.MinInt, math.MaxInt}
}

// strange is a breaker that is not valid, and why it is not.
type strange struct {
	why     string
	breaker api.Breaker
}

func strangeCurves() []strange {
	var l []strange
	for _, n := range outside(0, most) {
		l = append(l,
			strange{"its Limit", curve(n, 40, 100)}, strange{"its Limit", curve(n, 0, most)}, strange{"its Limit, which is its Fast,", curve(n, 40, n)},
			strange{"its Slow", curve(50, n, 100)}, strange{"its Slow", curve(0, n, 0)}, strange{"its Slow", curve(most, n, most)},
			strange{"its Fast", curve(50, 40, n)}, strange{"its Fast", curve(0, 0, n)}, strange{"its Fast", curve(most, most, n)},
			strange{"all of it", curve(n, n, n)})
	}
	for _, p := range [][2]int{{1, 0}, {50, 49}, {50, 0}, {most, most - 1}, {most, 0}} {
		l = append(l, strange{"its Fast, which is below its Limit,", curve(p[0], 40, p[1])})
	}
	return l
}

// strangeStates returns states that are not valid for a breaker with this Slow.
func strangeStates(slow int) []api.BreakerState {
	var l []api.BreakerState
	for _, heat := range outside(0, mostW) {
		l = append(l, cold(heat), tripped(heat))
	}
	return append(l, cold(slow+1), cold(slow+2), cold(mostW))
}

// strangeLoads returns lists that no function takes: with a load that is not from 0 to the greatest one, in a first, a middle and a last place.
func strangeLoads() [][]int {
	var l [][]int
	for _, w := range outside(0, mostW) {
		l = append(l, []int{w}, []int{w, 1, 2}, []int{1, w, 2}, []int{1, 2, w}, []int{mostW, w}, append(make([]int, api.MaxTicks-1), w))
	}
	return l
}

// longLists returns lists with more loads than are allowed.
func longLists() [][]int {
	return [][]int{make([]int, api.MaxTicks+1), slices.Repeat([]int{-1}, api.MaxTicks+1), make([]int, 1<<20)}
}
