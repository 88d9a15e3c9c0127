package order

import (
	"math/bits"

	"majordomo/api"
)

// elements is a set of elements, as bits; there is room for api.MaxSteps of them.
type elements uint16

// has reports whether a number is in a set; one that is no element is in none.
func (s elements) has(i int) bool { return i >= 0 && s>>i&1 == 1 }

func (s elements) with(i int) elements { return s | 1<<i }

func (s elements) contains(other elements) bool { return other&^s == 0 }

// each yields the elements of a set, ascending.
func (s elements) each(yield func(i int) bool) {
	for i := range api.MaxSteps {
		if s.has(i) && !yield(i) {
			return
		}
	}
}

func (s elements) size() int { return bits.OnesCount16(uint16(s)) }

// list returns a set as a list, in new memory.
func (s elements) list() []int {
	var l []int
	for i := range s.each {
		l = append(l, i)
	}
	return l
}

// listsOf returns sets as lists.
func listsOf(sets []elements) [][]int {
	var lists [][]int
	for _, s := range sets {
		lists = append(lists, s.list())
	}
	return lists
}
