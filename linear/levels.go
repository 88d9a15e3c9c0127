package linear

import (
	"iter"

	"majordomo/api"
)

// never is the tick of what does not happen.
const never = -1

// given returns what a source gives in a tick.
func given(inputs [][]int, source, t int) int {
	if source >= len(inputs) || t < 0 || t >= len(inputs[source]) {
		return 0
	}
	return inputs[source][t]
}

func eachPart(l api.Linear, visit func(api.Part)) {
	for _, p := range l.Parts {
		visit(p)
	}
}

// arriving returns what arrives in a tick.
func arriving(l api.Linear, inputs [][]int, t int) int {
	sum := 0
	eachPart(l, func(p api.Part) { sum += p.Times * given(inputs, p.Source, t-p.Delay) })
	return sum
}

// arrivals yields what arrives in each of n ticks.
func arrivals(l api.Linear, inputs [][]int, n int) iter.Seq[int] {
	return func(yield func(int) bool) {
		for t := range n {
			if !yield(arriving(l, inputs, t)) {
				return
			}
		}
	}
}

// levels yields the ticks with their levels: tick 0 with the start, and one more after each amount that arrives.
func levels(carry, start int, amounts iter.Seq[int]) iter.Seq2[int, int] {
	return func(yield func(int, int) bool) {
		t, level := 0, start
		if !yield(t, level) {
			return
		}
		for amount := range amounts {
			t, level = t+1, max(0, level+amount-carry)
			if !yield(t, level) {
				return
			}
		}
	}
}

// firstAbove returns the first tick whose level is greater than a limit.
func firstAbove(limit int, levels iter.Seq2[int, int]) int {
	for t, level := range levels {
		if level > limit {
			return t
		}
	}
	return never
}
