package core_test

import (
	"math"
	"slices"
	"testing"

	"majordomo/api"
	"majordomo/core"
)

// P9.5: the consequences.

// families returns all irreducible sets and all repairs.
func families(t *testing.T, a ask) (all, repairs [][]int) {
	t.Helper()
	all, e := core.All(a.n, a.j)
	repairs, repairsE := core.Repairs(a.n, a.j)
	if e != api.OK || repairsE != api.OK {
		t.Errorf("All(%d): error %d, Repairs: %d", a.n, e, repairsE)
	}
	return all, repairs
}

func among(set []int, sets [][]int) bool {
	return slices.ContainsFunc(sets, func(other []int) bool { return slices.Equal(set, other) })
}

func TestCoreIsIrreducible(t *testing.T) {
	for _, a := range ordinaryAsks(21, 500, 9) {
		all, _ := families(t, a)
		set, e := core.Core(a.n, a.j)
		if e == api.ErrNone {
			checkAll(t, a, nil)
			continue
		}
		checkIrreducible(t, a, set, true)
		if !among(set, all) {
			t.Errorf("Core(%d) = %v, %d, which is none of All, %v", a.n, set, e, all)
		}
	}
	for _, a := range ordinaryAsks(22, 300, 64) {
		if set, e := core.Core(a.n, a.j); e == api.OK {
			checkIrreducible(t, a, set, true)
		}
	}
}

func TestRepairsHitAll(t *testing.T) {
	for _, a := range append(ordinaryAsks(23, 500, 9), ask{12, atMost(5)}) {
		all, repairs := families(t, a)
		checkHitting(t, a.n, all, repairs)
		checkHitting(t, a.n, repairs, all)
	}
}

func TestWhatCanBeFulfilled(t *testing.T) {
	for _, a := range ordinaryAsks(24, 300, 8) {
		all, _ := families(t, a)
		for _, set := range setsOf(a.n) {
			if can := spared(all)(set); a.j(set) != can {
				t.Errorf("%v can be fulfilled: %t; by All, %v: %t", set, a.j(set), all, can)
			}
		}
	}
}

// DOC.md, rules 1 and 2 and P1: invalid arguments, in the order of the errors.

// answer is all that a call returns.
type answer struct {
	sets [][]int
	is   bool
	e    api.Errno
}

func (a answer) equals(b answer) bool { return same(a.sets, b.sets) && a.is == b.is && a.e == b.e }

// call is a call of a function that asks, with a number of demands of which there may be at most most.
type call struct {
	name string
	most int
	with func(n int, j judge) answer
}

func coreCall() call {
	return call{"Core", api.MaxDemands, func(n int, j judge) answer {
		set, e := core.Core(n, j)
		if e != api.OK && len(set) == 0 {
			return answer{e: e}
		}
		return answer{sets: [][]int{set}, e: e}
	}}
}

func irreducibleCall(set ...int) call {
	return call{"Irreducible", api.MaxDemands, func(n int, j judge) answer {
		is, e := core.Irreducible(n, set, j)
		return answer{is: is, e: e}
	}}
}

func allCall() call {
	return call{"All", api.MaxCores, func(n int, j judge) answer {
		sets, e := core.All(n, j)
		return answer{sets: sets, e: e}
	}}
}

func repairsCall() call {
	return call{"Repairs", api.MaxCores, func(n int, j judge) answer {
		sets, e := core.Repairs(n, j)
		return answer{sets: sets, e: e}
	}}
}

func calls() []call { return []call{coreCall(), irreducibleCall(), allCall(), repairsCall()} }

func checkNothing(t *testing.T, c call, n int, j judge, why string, want api.Errno) {
	t.Helper()
	if got := c.with(n, j); !got.equals(answer{e: want}) {
		t.Errorf("%s(%d) with %s: %v, want nothing, %d", c.name, n, why, got, want)
	}
}

func TestNobodyToAsk(t *testing.T) {
	for _, c := range append(calls(), irreducibleCall(0), irreducibleCall(7, 7), irreducibleCall(-1)) {
		for _, n := range append(outside(c.most), 0, 1, 4, c.most) {
			checkNothing(t, c, n, nil, "nil", api.ErrArg)
		}
	}
}

func TestNumberOfDemands(t *testing.T) {
	for _, c := range append(calls(), irreducibleCall(0), irreducibleCall(7, 7)) {
		for _, n := range outside(c.most) {
			for _, can := range []bool{true, false} {
				checkNothing(t, c, n, func([]int) bool {
					t.Errorf("%s(%d) asks", c.name, n)
					return can
				}, "too few or too many demands", api.ErrRange)
			}
		}
	}
	for _, c := range calls() {
		for _, n := range []int{0, c.most} {
			if got := c.with(n, watched(t, n, never)); got.e != api.OK {
				t.Errorf("%s(%d): error %d", c.name, n, got.e)
			}
		}
	}
	checkNothing(t, coreCall(), api.MaxDemands, always, "what can be fulfilled", api.ErrNone)
}

func TestNoSets(t *testing.T) {
	for _, n := range []int{0, 1, 2, 3, 4, 12, 13, 63, 64} {
		for _, set := range noSets(n) {
			checkNothing(t, irreducibleCall(set...), n, func([]int) bool {
				t.Errorf("Irreducible asks, though %v is no set", set)
				return false
			}, "what is no set", api.ErrRange)
		}
	}
	for n := range api.MaxCores + 1 {
		for _, set := range noSets(n) {
			for _, sets := range [][][]int{{set}, {nil, set}, {set, upTo(n)}, {upTo(n), upTo(n), set}} {
				checkNoHitting(t, n, sets)
			}
		}
	}
}

func checkNoHitting(t *testing.T, n int, sets [][]int) {
	t.Helper()
	if l, e := core.Hitting(n, sets); len(l) > 0 || e != api.ErrRange {
		t.Errorf("Hitting(%d, %d sets) = %v, %d, want nothing, %d", n, len(sets), l, e, api.ErrRange)
	}
}

func TestHittingOutOfRange(t *testing.T) {
	for _, n := range append(outside(api.MaxCores), api.MaxDemands) {
		for _, sets := range [][][]int{nil, empty(), {{0}, {1, 2}}, {{7, 7}}} {
			checkNoHitting(t, n, sets)
		}
	}
	for _, many := range []int{api.MaxSets + 1, 1 << 16} {
		checkNoHitting(t, 0, make([][]int, many))
		checkNoHitting(t, 12, make([][]int, many))
		checkNoHitting(t, 12, slices.Repeat([][]int{{1, 2}}, many))
	}
	checkNoHitting(t, 12, append(slices.Repeat([][]int{{1, 2}}, api.MaxSets-1), []int{12}))
}

// DOC.md, P1: no function panics, for all arguments, so also if the function that is passed does.

func TestPanic(t *testing.T) {
	panics := []func(){
		func() { panic("no") },
		func() { panic(nil) },
		func() { panic(api.ErrBroken) },
		func() { clear([]int(nil)[1:]) },
		func() { var m map[int]int; m[1] = 1 },
	}
	for _, c := range append(calls(), irreducibleCall(0, 2)) {
		for _, fail := range panics {
			for _, after := range []int{0, 1, 2} {
				times := 0
				j := func(set []int) bool {
					if times++; times > after {
						fail()
					}
					return len(set) == 1
				}
				if got := c.with(4, j); !got.equals(answer{e: api.ErrArg}) && times > after {
					t.Errorf("%s, with a panic after %d times: %v", c.name, after, got)
				}
			}
		}
	}
}

// What says now this and now that breaks what the chapter asks for; still each call ends.
func TestFickle(t *testing.T) {
	for _, c := range append(calls(), irreducibleCall(upTo(8)...)) {
		for every := 1; every < 6; every++ {
			times := 0
			got := c.with(min(c.most, 20), func([]int) bool { times++; return times%every == 0 })
			if got.e != api.OK && got.e != api.ErrNone {
				t.Errorf("%s: error %d", c.name, got.e)
			}
		}
	}
}

// DOC.md, rules 2 to 5: nil and empty lists are the same, arguments stay as they are, results share no memory, equal arguments give equal results.

func TestNilAndEmpty(t *testing.T) {
	for _, j := range []judge{always, never, example, atMost(0)} {
		one, two := irreducibleCall([]int(nil)...).with(4, j), irreducibleCall([]int{}...).with(4, j)
		if !one.equals(two) {
			t.Errorf("Irreducible: %v with nil, %v with an empty list", one, two)
		}
	}
	checkHitting(t, 4, [][]int{}, empty())
	checkHitting(t, 4, [][]int{{}}, nil)
	checkHitting(t, 4, [][]int{nil}, nil)
}

// checkMemory calls twice, spoils what was returned first, and compares.
func checkMemory(t *testing.T, name string, with func() [][]int) {
	t.Helper()
	one := with()
	var want [][]int
	for _, set := range one {
		want = append(want, slices.Clone(set))
	}
	two := with()
	for i, set := range one {
		spoil(set)
		if !same(one[i+1:], want[i+1:]) {
			t.Errorf("%s: sets of one result share memory, of %v", name, want)
		}
	}
	if !same(two, want) || !same(with(), want) {
		t.Errorf("%s: called again: %v, at first: %v", name, two, want)
	}
}

func TestMemoryOfResults(t *testing.T) {
	for _, a := range append(ordinaryAsks(25, 200, 7), strangeAsks(26, 200, 7)...) {
		for _, c := range calls() {
			checkMemory(t, c.name, func() [][]int { return c.with(a.n, watched(t, a.n, a.j)).sets })
		}
	}
	checkMemory(t, "Core", func() [][]int { return coreCall().with(64, atMost(32)).sets })
}

func TestMemoryOfSets(t *testing.T) {
	for _, a := range append(ordinaryAsks(27, 100, 6), strangeAsks(28, 100, 6)...) {
		all, _ := families(t, a)
		handed := roomyLists(all)
		checkMemory(t, "Hitting", func() [][]int {
			sets, _ := core.Hitting(a.n, handed)
			return sets
		})
		for i, set := range all {
			core.Irreducible(a.n, handed[i], watched(t, a.n, a.j))
			core.Irreducible(a.n, set[:len(set)/2], watched(t, a.n, a.j))
		}
		if !unspoiltLists(handed, all) {
			t.Errorf("the sets %v were changed", all)
		}
	}
	for _, set := range noSets(4) {
		handed := roomy(set)
		core.Irreducible(4, handed, example)
		core.Hitting(4, [][]int{handed, handed})
		if !unspoilt(handed, set) {
			t.Errorf("the list %v was changed", set)
		}
	}
}

// A list that is handed in may change while its function asks.
func TestSetThatChanges(t *testing.T) {
	set := []int{0, 1, 2}
	is, e := core.Irreducible(3, set, func(asked []int) bool {
		spoil(set)
		return len(asked) < 3 && !slices.Contains(asked, math.MinInt)
	})
	if !is || e != api.OK {
		t.Errorf("Irreducible = %t, %d, while its set is changed", is, e)
	}
}

// What is asked may ask the same functions.
func TestAskingWithin(t *testing.T) {
	within := func(set []int) bool {
		_, e := core.Core(len(set), func(places []int) bool { return len(places) < 3 })
		all, _ := core.All(4, example)
		return e == api.ErrNone && len(all) == 3
	}
	checkCore(t, ask{5, within}, []int{0, 1, 2}, api.OK)
	checkRepairs(t, ask{3, within}, [][]int{{0}, {1}, {2}})
}
