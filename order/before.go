package order

import (
	"slices"

	"majordomo/api"
)

// before is a valid order: of each element, the set of all that come before it.
type before []elements

// read returns the order that lists say, or its error.
func read(after [][]int) (before, api.Errno) {
	switch {
	case len(after) > api.MaxSteps || slices.ContainsFunc(after, isDisordered):
		return nil, api.ErrArg
	case !nameOthers(after):
		return nil, api.ErrRange
	}
	b := follow(after)
	for i, s := range b {
		if s.has(i) {
			return nil, api.ErrCycle
		}
	}
	return b, api.OK
}

// isDisordered reports whether a list is not strictly ascending.
func isDisordered(list []int) bool {
	for k := 1; k < len(list); k++ {
		if list[k-1] >= list[k] {
			return true
		}
	}
	return false
}

// nameOthers reports whether each list contains elements other than its own one.
func nameOthers(after [][]int) bool {
	for own, list := range after {
		for _, i := range list {
			if i < 0 || i >= len(after) || i == own {
				return false
			}
		}
	}
	return true
}

// follow returns of each element all from which lists lead to it; if there is a cycle, its elements are among their own ones.
func follow(after [][]int) before {
	b := make(before, len(after))
	for i, list := range after {
		for _, direct := range list {
			b[i] = b[i].with(direct)
		}
	}
	for middle := range b { // now the ways over lesser elements are known, and those over this one are added
		for i := range b {
			if b[i].has(middle) {
				b[i] |= b[middle]
			}
		}
	}
	return b
}

// directly returns of each element the set of those that come before it, but not before another one that does.
func (b before) directly() []elements {
	var sets []elements
	for _, s := range b {
		direct := s
		for i := range s.each {
			direct &^= b[i]
		}
		sets = append(sets, direct)
	}
	return sets
}

// all returns the set of all elements.
func (b before) all() elements { return 1<<len(b) - 1 }

// setOf returns the set that a number is, if it is in the range of sets.
func (b before) setOf(number int) (s elements, ok bool) {
	if number < 0 || number > int(b.all()) {
		return 0, false
	}
	return elements(number), true
}

func (b before) isIdeal(s elements) bool {
	for i := range s.each {
		if !s.contains(b[i]) {
			return false
		}
	}
	return true
}

// ideals yields all ideals, ascending.
func (b before) ideals(yield func(ideal elements) bool) {
	for s := range b.all() + 1 {
		if b.isIdeal(s) && !yield(s) {
			return
		}
	}
}

// enabled returns the elements that an ideal enables.
func (b before) enabled(ideal elements) elements {
	var s elements
	for i := range b {
		if !ideal.has(i) && ideal.contains(b[i]) {
			s = s.with(i)
		}
	}
	return s
}
