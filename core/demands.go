package core

import (
	"iter"
	"math/bits"
)

// demands is a set of demands, as bits; there is one for each of api.MaxDemands.
type demands uint64

// allOf returns the set of the first n demands; if there are 64, the bit above them is lost, and all bits remain.
func allOf(n int) demands { return 1<<n - 1 }

// setOf returns the set that a list is, if it is a set of the first n demands.
func setOf(n int, list []int) (s demands, ok bool) {
	next := 0
	for _, d := range list {
		if d < next || d >= n {
			return 0, false
		}
		s, next = s.with(d), d+1
	}
	return s, true
}

func (s demands) with(d int) demands { return s | 1<<d }

func (s demands) without(d int) demands { return s &^ (1 << d) }

// each yields the demands of a set, ascending.
func (s demands) each(yield func(d int) bool) {
	for left := uint64(s); left != 0; left &= left - 1 {
		if !yield(bits.TrailingZeros64(left)) {
			return
		}
	}
}

// list returns a set as a list, in new memory.
func (s demands) list() []int {
	var l []int
	for d := range s.each {
		l = append(l, d)
	}
	return l
}

// ordered yields all sets of the first n demands in their order.
func ordered(n int) iter.Seq[demands] {
	return func(yield func(s demands) bool) {
		var extend func(s demands, from, missing int) bool
		extend = func(s demands, from, missing int) bool {
			if missing == 0 {
				return yield(s)
			}
			for d := from; d <= n-missing; d++ {
				if !extend(s.with(d), d+1, missing-1) {
					return false
				}
			}
			return true
		}
		for size := range n + 1 {
			if !extend(0, 0, size) {
				return
			}
		}
	}
}
