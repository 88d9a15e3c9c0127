package breaker

import (
	"iter"

	"majordomo/api"
)

// never is the number of ticks until what does not happen.
const never = -1

// next returns the state after a tick.
func next(b api.Breaker, s api.BreakerState, watts int) api.BreakerState {
	if s.Tripped {
		return s
	}
	heat := max(0, s.Heat+watts-b.Limit)
	return api.BreakerState{Heat: min(heat, api.MaxCap), Tripped: watts > b.Fast || heat > b.Slow}
}

// states yields the index of each load with the state after its tick.
func states(b api.Breaker, s api.BreakerState, watts []int) iter.Seq2[int, api.BreakerState] {
	return func(yield func(int, api.BreakerState) bool) {
		for i, w := range watts {
			s = next(b, s, w)
			if !yield(i, s) {
				return
			}
		}
	}
}

// lasting returns in how many ticks a load is borne. It does not go from tick to tick, as there may be a million of them.
func lasting(b api.Breaker, heat, watts int) int {
	switch {
	case watts <= b.Limit:
		return never // it does not trip
	case watts > b.Fast:
		return 0
	}
	return (b.Slow - heat) / (watts - b.Limit)
}

// cooling returns after how many ticks with a load the heat is 0.
func cooling(b api.Breaker, heat, watts int) int {
	switch {
	case heat == 0:
		return 0
	case watts >= b.Limit:
		return never
	}
	fall := b.Limit - watts
	return (heat + fall - 1) / fall
}
