package core_test

import (
	"math/rand"
	"slices"
	"testing"

	"majordomo/api"
	"majordomo/core"
)

// empty is the list of the empty set.
func empty() [][]int { return [][]int{nil} }

// P9.1: Core.

func TestExampleOfCore(t *testing.T) {
	checkCore(t, ask{4, example}, []int{0, 2}, api.OK)
	checkCore(t, ask{3, example}, []int{0, 2}, api.OK)
	checkCore(t, ask{2, example}, nil, api.ErrNone)
}

func TestEdgesOfCore(t *testing.T) {
	for _, n := range []int{0, 1, 2, 12, 13, 63, api.MaxDemands} {
		checkCore(t, ask{n, always}, nil, api.ErrNone)
		checkCore(t, ask{n, never}, nil, api.OK)
		checkCore(t, ask{n, atMost(n)}, nil, api.ErrNone)
		checkCore(t, ask{n, atMost(n - 1)}, upTo(n), api.OK)
		for _, d := range []int{0, 1, n / 2, n - 2, n - 1} {
			if d >= 0 && d < n {
				checkCore(t, ask{n, spared([][]int{{d}})}, []int{d}, api.OK)
				checkCore(t, ask{n, atMost(d)}, upTo(d+1), api.OK)
			}
		}
	}
	checkCore(t, ask{64, spared([][]int{{0, 63}, {31, 32}, {62, 63}})}, []int{31, 32}, api.OK)
	checkCore(t, ask{64, spared([][]int{{0, 63}, {5, 62, 63}})}, []int{0, 63}, api.OK)
}

// Demands that are not ordinary: what remains may be no irreducible set, and what was kept once stays.
func TestCoreOfStrangeDemands(t *testing.T) {
	fails := func(sets ...[]int) judge { return but(always, sets...) }
	checkCore(t, ask{3, fails([]int{0, 1, 2})}, []int{0, 1, 2}, api.OK)
	checkCore(t, ask{3, fails([]int{0, 1, 2}, []int{0, 2}, []int{0})}, []int{0, 2}, api.OK)
	checkCore(t, ask{3, fails([]int{0, 1, 2}, []int{1, 2}, []int{1})}, []int{1, 2}, api.OK)
	checkCore(t, ask{3, fails([]int{0, 1, 2}, []int{1}, []int{2}, nil)}, []int{0, 1, 2}, api.OK)
	checkCore(t, ask{3, fails([]int{0, 1, 2}, []int{0, 1}, []int{1})}, []int{1}, api.OK)
	checkCore(t, ask{3, fails([]int{0, 1}, nil)}, nil, api.ErrNone)
}

// remains does what P9.1 says of Core.
func remains(n int, j judge) ([]int, api.Errno) {
	left := upTo(n)
	if j(left) {
		return nil, api.ErrNone
	}
	for _, d := range slices.Backward(upTo(n)) {
		if others := less(left, d); !j(others) {
			left = others
		}
	}
	return left, api.OK
}

func TestCore(t *testing.T) {
	for _, a := range slices.Concat(ordinaryAsks(1, 600, 10), ordinaryAsks(2, 300, 64), strangeAsks(3, 1200, 10), strangeAsks(4, 600, 64)) {
		want, e := remains(a.n, a.j)
		checkCore(t, a, want, e)
	}
}

// P9.2: Irreducible.

func TestExampleOfIrreducible(t *testing.T) {
	checkIrreducible(t, ask{4, example}, []int{0, 2}, true)
	checkIrreducible(t, ask{4, example}, []int{0, 1, 2}, false)
	checkIrreducible(t, ask{4, example}, []int{0, 1}, false)
	checkIrreducible(t, ask{4, example}, []int{3}, true)
	checkIrreducible(t, ask{4, example}, nil, false)
}

func TestEdgesOfIrreducible(t *testing.T) {
	for _, n := range []int{0, 1, 2, 12, 13, 63, api.MaxDemands} {
		checkIrreducible(t, ask{n, never}, nil, true)
		checkIrreducible(t, ask{n, always}, nil, false)
		checkIrreducible(t, ask{n, always}, upTo(n), false)
		checkIrreducible(t, ask{n, never}, upTo(n), n == 0)
		checkIrreducible(t, ask{n, atMost(n - 1)}, upTo(n), true)
		checkIrreducible(t, ask{n, atMost(n - 2)}, upTo(n), n == 0)
		if n > 0 {
			checkIrreducible(t, ask{n, never}, []int{n - 1}, false)
			checkIrreducible(t, ask{n, atMost(0)}, []int{n - 1}, true)
			checkIrreducible(t, ask{n, but(atMost(n-1), less(upTo(n), n-1))}, upTo(n), false)
			checkIrreducible(t, ask{n, but(atMost(n-1), less(upTo(n), 0))}, upTo(n), false)
		}
	}
}

func TestIrreducible(t *testing.T) {
	for _, a := range slices.Concat(ordinaryAsks(5, 200, 6), strangeAsks(6, 300, 6)) {
		for _, set := range setsOf(a.n) {
			checkIrreducible(t, a, set, isIrreducible(set, a.j))
		}
	}
	r := rand.New(rand.NewSource(7))
	for range 300 {
		set := randomSet(r, 64, 1+r.Intn(4))
		for _, j := range []judge{spared([][]int{set}), but(always, set), but(spared([][]int{set}), less(set, r.Intn(64)))} {
			checkIrreducible(t, ask{64, j}, set, isIrreducible(set, j))
		}
	}
}

// P9.3: All and Repairs.

func TestExampleOfAllAndRepairs(t *testing.T) {
	checkAll(t, ask{4, example}, [][]int{{3}, {0, 2}, {1, 2}})
	checkRepairs(t, ask{4, example}, [][]int{{2, 3}, {0, 1, 3}})
	checkAll(t, ask{2, example}, nil)
	checkRepairs(t, ask{2, example}, empty())
}

func TestEdgesOfAllAndRepairs(t *testing.T) {
	for n := range api.MaxCores + 1 {
		checkAll(t, ask{n, never}, empty())
		checkAll(t, ask{n, always}, nil)
		checkRepairs(t, ask{n, never}, nil)
		checkRepairs(t, ask{n, always}, empty())
		for _, many := range []int{0, 1, n / 2, n - 1} {
			if many < 0 || many >= n {
				continue
			}
			checkAll(t, ask{n, atMost(many)}, choose(n, func(set []int) bool { return len(set) == many+1 }))
			checkRepairs(t, ask{n, atMost(many)}, choose(n, func(set []int) bool { return len(set) == n-many }))
		}
	}
}

func TestOrderOfAll(t *testing.T) {
	sets := [][]int{{0, 1, 11}, {0, 2, 3}, {4, 5}, {1, 2}, {1, 10}, {9}, {0, 1, 2, 8}}
	checkAll(t, ask{12, spared(sets)}, [][]int{{9}, {1, 2}, {1, 10}, {4, 5}, {0, 1, 11}, {0, 2, 3}})
}

// Demands that are not ordinary: also sets that contain others can be irreducible, also when all demands can be fulfilled together.
func TestAllAndRepairsOfStrangeDemands(t *testing.T) {
	odd := func(set []int) bool { return len(set)%2 == 1 }
	even := func(set []int) bool { return len(set)%2 == 0 }
	checkAll(t, ask{3, odd}, [][]int{nil, {0, 1}, {0, 2}, {1, 2}})
	checkAll(t, ask{3, even}, [][]int{{0}, {1}, {2}, {0, 1, 2}})
	checkRepairs(t, ask{3, odd}, [][]int{nil, {0, 1}, {0, 2}, {1, 2}})
	checkRepairs(t, ask{3, even}, [][]int{{0}, {1}, {2}, {0, 1, 2}})
	checkRepairs(t, ask{2, but(always, []int{0, 1}, []int{0}, []int{1})}, [][]int{{0, 1}})
	checkRepairs(t, ask{2, but(never, []int{0}, nil)}, [][]int{{1}})
	checkAll(t, ask{2, but(never, []int{0}, nil)}, [][]int{{1}})
}

func TestAllAndRepairs(t *testing.T) {
	for _, a := range slices.Concat(ordinaryAsks(8, 300, 7), strangeAsks(9, 400, 7), ordinaryAsks(10, 3, 12), strangeAsks(11, 6, 12)) {
		checkAll(t, a, choose(a.n, func(set []int) bool { return isIrreducible(set, a.j) }))
		checkRepairs(t, a, choose(a.n, func(set []int) bool { return isRepair(a.n, set, a.j) }))
	}
}

// P9.4: Hitting.

func TestExampleOfHitting(t *testing.T) {
	checkHitting(t, 4, [][]int{{3}, {0, 2}, {1, 2}}, [][]int{{2, 3}, {0, 1, 3}})
	checkHitting(t, 4, nil, empty())
	checkHitting(t, 4, empty(), nil)
}

func TestEdgesOfHitting(t *testing.T) {
	for n := range api.MaxCores + 1 {
		checkHitting(t, n, nil, empty())
		checkHitting(t, n, empty(), nil)
		checkHitting(t, n, [][]int{nil, nil, {}}, nil)
		checkHitting(t, n, [][]int{upTo(n), {}}, nil)
		checkHitting(t, n, [][]int{nil, upTo(n)}, nil)
		checkHitting(t, n, [][]int{upTo(n), upTo(n)}, choose(n, func(set []int) bool { return len(set) == 1 }))
		for many := 1; many <= n; many++ { // each two sets of this many have something in common, or there is none
			all := choose(n, func(set []int) bool { return len(set) == many })
			checkHitting(t, n, all, choose(n, func(set []int) bool { return len(set) == n-many+1 }))
		}
	}
	checkHitting(t, 12, [][]int{{11}, {0}}, [][]int{{0, 11}})
	checkHitting(t, 12, [][]int{{0, 11}, {1, 10}}, [][]int{{0, 1}, {0, 10}, {1, 11}, {10, 11}})
	checkHitting(t, 3, [][]int{{0, 1, 2}, {1, 2}, {2}, {0, 2}}, [][]int{{2}})
}

func TestManySets(t *testing.T) {
	all := setsOf(api.MaxCores)
	checkHitting(t, api.MaxCores, all, nil)
	full := append(slices.Clone(all[1:]), upTo(12))
	checkHitting(t, api.MaxCores, full, [][]int{upTo(12)})
	checkHitting(t, api.MaxCores, slices.Repeat([][]int{{3, 4}}, api.MaxSets), [][]int{{3}, {4}})
	if len(all) != api.MaxSets || len(full) != api.MaxSets {
		t.Errorf("%d and %d sets are tried, not %d", len(all), len(full), api.MaxSets)
	}
}

func TestHitting(t *testing.T) {
	r := rand.New(rand.NewSource(12))
	for i := range 606 {
		n := r.Intn(8)
		if i >= 600 {
			n = 12
		}
		sets := randomSets(r, n, 9)
		if i%2 == 0 {
			sets = slices.DeleteFunc(sets, func(set []int) bool { return len(set) == 0 })
		}
		checkHitting(t, n, sets, choose(n, func(set []int) bool { return isHitting(set, sets) }))
	}
}

// isOrdinary reports whether each set that can be fulfilled can be with one demand less, too.
func isOrdinary(a ask) bool {
	for _, set := range setsOf(a.n) {
		less := func(d int) bool { return a.j(set) && !a.j(less(set, d)) }
		if slices.ContainsFunc(set, less) {
			return false
		}
	}
	return true
}

// The tests are worth something only if the asks are what they say, and not all alike.
func TestAsks(t *testing.T) {
	strange, cores := 0, 0
	for _, a := range ordinaryAsks(13, 200, 6) {
		if !isOrdinary(a) {
			t.Errorf("%d demands with the irreducible sets %v are not ordinary", a.n, choose(a.n, func(set []int) bool { return isIrreducible(set, a.j) }))
		}
	}
	for _, a := range strangeAsks(14, 200, 6) {
		if !isOrdinary(a) {
			strange++
		}
		if _, e := core.Core(a.n, a.j); e == api.OK {
			cores++
		}
	}
	if strange < 100 || cores < 50 || cores > 180 {
		t.Errorf("of 200 asks %d are strange, %d have a core", strange, cores)
	}
}
