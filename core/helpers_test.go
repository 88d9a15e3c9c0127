package core_test

import (
	"cmp"
	"math"
	"math/rand"
	"slices"
	"testing"

	"majordomo/api"
	"majordomo/core"
)

// judge says which sets can be fulfilled.
type judge func(set []int) bool

// example is F of the chapter's examples.
func example(set []int) bool {
	has := func(d int) bool { return slices.Contains(set, d) }
	return !(has(0) && has(2)) && !(has(1) && has(2)) && !has(3)
}

func always([]int) bool { return true }

func never([]int) bool { return false }

// atMost lets sets of at most so many demands be fulfilled.
func atMost(many int) judge {
	return func(set []int) bool { return len(set) <= many }
}

// spared lets those sets be fulfilled that contain none of the others.
func spared(others [][]int) judge {
	return func(set []int) bool {
		return !slices.ContainsFunc(others, func(other []int) bool { return contains(set, other) })
	}
}

// contains reports whether a set has all numbers of another one.
func contains(set, other []int) bool {
	for _, d := range other {
		if !slices.Contains(set, d) {
			return false
		}
	}
	return true
}

// scattered lets sets be fulfilled as if by chance, about one of so many: its demands are not ordinary.
func scattered(seed uint64, one uint64) judge {
	return func(set []int) bool {
		sum := seed
		for _, d := range set {
			sum = (sum + uint64(d) + 1) * 0x9e3779b97f4a7c15
			sum ^= sum >> 29
		}
		return sum%one == 0
	}
}

// but is a judge that differs from another one for some sets.
func but(j judge, sets ...[]int) judge {
	return func(set []int) bool {
		differs := slices.ContainsFunc(sets, func(s []int) bool { return slices.Equal(s, set) })
		return j(set) != differs
	}
}

// upTo returns the numbers from 0 to n - 1.
func upTo(n int) []int {
	var l []int
	for i := range n {
		l = append(l, i)
	}
	return l
}

// less returns the numbers of a set that are not in another one.
func less(set []int, other ...int) []int {
	return slices.DeleteFunc(slices.Clone(set), func(d int) bool { return slices.Contains(other, d) })
}

// plus returns a set with one number more.
func plus(set []int, d int) []int {
	l := append(slices.Clone(set), d)
	slices.Sort(l)
	return l
}

// before compares two sets as the chapter orders them.
func before(a, b []int) int { return cmp.Or(cmp.Compare(len(a), len(b)), slices.Compare(a, b)) }

// setsOf returns all sets of n demands in their order.
func setsOf(n int) [][]int {
	var l [][]int
	for bits := range 1 << n {
		l = append(l, less(upTo(n), missing(n, bits)...))
	}
	slices.SortFunc(l, before)
	return l
}

// missing returns the numbers below n that are not among the bits.
func missing(n, bits int) []int {
	var l []int
	for d := range n {
		if bits>>d&1 == 0 {
			l = append(l, d)
		}
	}
	return l
}

// choose returns the sets of n demands that a definition fits, in their order.
func choose(n int, fits func(set []int) bool) [][]int {
	return slices.DeleteFunc(setsOf(n), func(set []int) bool { return !fits(set) })
}

// isIrreducible, isRepair and isHitting say what the chapter's terms say.
func isIrreducible(set []int, j judge) bool {
	without := func(d int) bool { return !j(less(set, d)) }
	return !j(set) && !slices.ContainsFunc(set, without)
}

func isRepair(n int, set []int, j judge) bool {
	others := less(upTo(n), set...)
	back := func(d int) bool { return j(plus(others, d)) }
	return j(others) && !slices.ContainsFunc(set, back)
}

func hits(set []int, sets [][]int) bool {
	missed := func(other []int) bool { return len(less(other, set...)) == len(other) }
	return !slices.ContainsFunc(sets, missed)
}

func isHitting(set []int, sets [][]int) bool {
	without := func(d int) bool { return hits(less(set, d), sets) }
	return hits(set, sets) && !slices.ContainsFunc(set, without)
}

// same reports whether two lists of sets are the same.
func same(a, b [][]int) bool { return slices.EqualFunc(a, b, slices.Equal[[]int]) }

// asked counts how often a judge is asked, and complains of what is no set of n demands, and of a list that it was asked with before. It keeps the lists, and spoils them.
type asked struct {
	times int
	kept  [][]int
}

func (a *asked) watch(t *testing.T, n int, j judge) judge {
	return func(set []int) bool {
		a.times++
		if slices.ContainsFunc(a.kept, func(l []int) bool { return !isSpoilt(l) }) {
			t.Errorf("asked with %v in a list that was kept", set)
		}
		for i, d := range set {
			if d < 0 || d >= n || i > 0 && set[i-1] >= d {
				t.Errorf("asked with %v, which is no set of %d demands", set, n)
			}
		}
		can := j(set)
		spoil(set)
		a.kept = append(a.kept[max(0, len(a.kept)-9):], set)
		return can
	}
}

// watched is a judge that complains, and spoils its lists.
func watched(t *testing.T, n int, j judge) judge { return new(asked).watch(t, n, j) }

// spoil changes all the memory of a list.
func spoil(l []int) {
	l = l[:cap(l)]
	for i := range l {
		l[i] = -7777
	}
}

func isSpoilt(l []int) bool {
	return !slices.ContainsFunc(l[:cap(l)], func(d int) bool { return d != -7777 })
}

// roomy returns a list with room behind it, filled with 77.
func roomy(l []int) []int { return append(slices.Clone(l), 77, 77)[:len(l)] }

func roomyLists(lists [][]int) [][]int {
	l := make([][]int, len(lists), len(lists)+2)
	for i, list := range lists {
		l[i] = roomy(list)
	}
	return l
}

// unspoilt reports whether a list that roomy returned is still the same as another one, with its room.
func unspoilt(l, as []int) bool {
	return slices.Equal(l, as) && slices.Equal(l[len(l):len(l)+2], []int{77, 77})
}

func unspoiltLists(lists, as [][]int) bool {
	room := lists[len(lists) : len(lists)+2]
	return slices.EqualFunc(lists, as, unspoilt) && room[0] == nil && room[1] == nil
}

// randomSet returns a set of n demands, each of which is there once in so many times.
func randomSet(r *rand.Rand, n, once int) []int {
	var l []int
	for d := range n {
		if r.Intn(once) == 0 {
			l = append(l, d)
		}
	}
	return l
}

func randomSets(r *rand.Rand, n, most int) [][]int {
	var l [][]int
	for range r.Intn(most + 1) {
		l = append(l, randomSet(r, n, 2+r.Intn(3)))
	}
	return l
}

// ask is a number of demands with a judge.
type ask struct {
	n int
	j judge
}

// ordinaryAsks have ordinary demands, of which there are at most most.
func ordinaryAsks(seed int64, many, most int) []ask {
	r := rand.New(rand.NewSource(seed))
	l := []ask{{4, example}, {0, always}, {0, never}, {1, never}, {3, never}, {3, always}, {5, atMost(0)}, {6, atMost(2)}}
	for range many {
		n := r.Intn(most + 1)
		l = append(l, ask{n, spared(randomSets(r, n, 8))})
	}
	return l
}

// strangeAsks have demands that are not ordinary, mostly.
func strangeAsks(seed int64, many, most int) []ask {
	r := rand.New(rand.NewSource(seed))
	var l []ask
	for i := range many {
		n := r.Intn(most + 1)
		j := scattered(uint64(r.Int63()), uint64(2+r.Intn(3)))
		if i%2 == 0 {
			j = but(j, upTo(n)) // mostly not all of them can be fulfilled then
		}
		if i%3 == 0 {
			j = but(spared(randomSets(r, n, 5)), randomSets(r, n, 5)...)
		}
		l = append(l, ask{n, j})
	}
	return l
}

// outside returns numbers that are not from 0 to most.
func outside(most int) []int { return []int{-1, most + 1, most + 7, math.MinInt, math.MaxInt} }

// noSets returns lists that are no sets of n demands.
func noSets(n int) [][]int {
	l := [][]int{{n}, {-1}, {-1, 0}, {0, n}, {math.MinInt}, {math.MaxInt}, {0, math.MaxInt}, {0, 0}, {64}, make([]int, 1<<16)}
	if n > 2 {
		l = append(l, []int{1, 1}, []int{1, 0}, []int{n - 1, 0}, []int{0, 2, 1}, []int{0, 1, 1}, []int{n - 1, n - 1}, append(upTo(n), n), append(upTo(n), n-1))
	}
	return l
}

func checkCore(t *testing.T, a ask, want []int, wantE api.Errno) {
	t.Helper()
	var watch asked
	set, e := core.Core(a.n, watch.watch(t, a.n, a.j))
	if !slices.Equal(set, want) || e != wantE {
		t.Errorf("Core(%d) = %v, %d, want %v, %d", a.n, set, e, want, wantE)
	}
	if watch.times > a.n+1 {
		t.Errorf("Core(%d) asked %d times", a.n, watch.times)
	}
}

func checkIrreducible(t *testing.T, a ask, set []int, want bool) {
	t.Helper()
	if is, e := core.Irreducible(a.n, set, watched(t, a.n, a.j)); is != want || e != api.OK {
		t.Errorf("Irreducible(%d, %v) = %t, %d, want %t", a.n, set, is, e, want)
	}
}

func checkAll(t *testing.T, a ask, want [][]int) {
	t.Helper()
	if l, e := core.All(a.n, watched(t, a.n, a.j)); !same(l, want) || e != api.OK {
		t.Errorf("All(%d) = %v, %d, want %v", a.n, l, e, want)
	}
}

func checkRepairs(t *testing.T, a ask, want [][]int) {
	t.Helper()
	if l, e := core.Repairs(a.n, watched(t, a.n, a.j)); !same(l, want) || e != api.OK {
		t.Errorf("Repairs(%d) = %v, %d, want %v", a.n, l, e, want)
	}
}

func checkHitting(t *testing.T, n int, sets, want [][]int) {
	t.Helper()
	if l, e := core.Hitting(n, sets); !same(l, want) || e != api.OK {
		t.Errorf("Hitting(%d, %v) = %v, %d, want %v", n, sets, l, e, want)
	}
}
