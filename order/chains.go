package order

import "slices"

// none is the element that is not there.
const none = -1

// height returns how many elements the longest chain has: of those whose turn comes at once, when all do whose turn has come, each chain has at most one, and the longest chain has one.
func (b before) height() int {
	rounds := 0
	for come := elements(0); come != b.all(); rounds++ {
		come |= b.enabled(come)
	}
	return rounds
}

// width returns how many elements the largest antichain has. What an ideal enables is an antichain; and each antichain is a part of what is enabled by the ideal of all that come before its elements.
func (b before) width() int {
	most := 0
	for ideal := range b.ideals {
		most = max(most, b.enabled(ideal).size())
	}
	return most
}

// joined returns, for each element, the next one of its chain, or none. As many elements as possible have a next one, so that there are as few chains as possible.
func (b before) joined() []int {
	next := slices.Repeat([]int{none}, len(b))
	for i := range b {
		var tried elements
		var join func(i int) bool // makes an element the next one of another; the next one of that must be joined to a third one then
		join = func(i int) bool {
			for first := range b[i].each {
				if tried.has(first) {
					continue
				}
				tried = tried.with(first)
				if next[first] == none || join(next[first]) {
					next[first] = i
					return true
				}
			}
			return false
		}
		join(i)
	}
	return next
}

// chains returns as few chains as possible that contain each element once.
func (b before) chains() [][]int {
	next := b.joined()
	var chains [][]int
	for first := range b {
		if slices.Contains(next, first) {
			continue // it is inside a chain
		}
		var chain []int
		for i := first; i != none; i = next[i] {
			chain = append(chain, i)
		}
		chains = append(chains, chain)
	}
	return chains
}
