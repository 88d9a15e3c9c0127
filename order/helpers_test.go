package order_test

import (
	"math"
	"math/rand"
	"slices"
	"testing"

	"majordomo/api"
	"majordomo/order"
)

// example is V of the chapter's examples.
func example() [][]int { return [][]int{nil, nil, {0, 1}, {1, 2}} }

// loose returns the order of n elements no two of which are comparable.
func loose(n int) [][]int { return make([][]int, n) }

// tight returns the order of n elements each of which comes directly before the next one.
func tight(n int) [][]int {
	after := loose(n)
	for i := 1; i < n; i++ {
		after[i] = []int{i - 1}
	}
	return after
}

// ladder returns the order of n elements in which all lesser ones come before each.
func ladder(n int) [][]int {
	after := loose(n)
	for i := range n {
		after[i] = upTo(i)
	}
	return after
}

// backwards returns the order in which the elements are named from the last to the first.
func backwards(after [][]int) [][]int {
	n := len(after)
	back := loose(n)
	for i, list := range after {
		for _, j := range slices.Backward(list) {
			back[n-1-i] = append(back[n-1-i], n-1-j)
		}
	}
	return back
}

// upTo returns the numbers from 0 to n - 1.
func upTo(n int) []int {
	var l []int
	for i := range n {
		l = append(l, i)
	}
	return l
}

// graphs returns all lists of n elements that contain others only, and are ascending; some have cycles.
func graphs(n int) [][][]int {
	all := [][][]int{nil}
	for own := range n {
		var longer [][][]int
		for _, after := range all {
			for bits := range 1 << n {
				if bits>>own&1 == 0 {
					longer = append(longer, append(slices.Clone(after), members(bits)))
				}
			}
		}
		all = longer
	}
	return all
}

// members returns the elements of a set.
func members(set int) []int {
	var l []int
	for i := 0; set>>i > 0; i++ {
		if set>>i&1 == 1 {
			l = append(l, i)
		}
	}
	return l
}

// setOf returns the set of the elements of a list.
func setOf(l []int) int {
	set := 0
	for _, i := range l {
		set += 1 << i
	}
	return set
}

// goesBefore reports whether an element comes before another one, by as many lists at most.
func goesBefore(after [][]int, i, j, most int) bool {
	further := func(k int) bool { return k == i || goesBefore(after, i, k, most-1) }
	return most > 0 && slices.ContainsFunc(after[j], further)
}

func hasCycle(after [][]int) bool {
	for i := range after {
		if goesBefore(after, i, i, len(after)) {
			return true
		}
	}
	return false
}

// smallOrders returns all orders of at most 4 elements.
func smallOrders() [][][]int {
	var all [][][]int
	for n := range 5 {
		all = append(all, slices.DeleteFunc(graphs(n), hasCycle)...)
	}
	return all
}

// randomOrder returns an order in which of two elements one comes directly before the other about once in so many times.
func randomOrder(r *rand.Rand, n, once int) [][]int {
	line, after := r.Perm(n), loose(n)
	for at, i := range line {
		for _, j := range line[:at] {
			if r.Intn(once) == 0 {
				after[i] = append(after[i], j)
			}
		}
		slices.Sort(after[i])
	}
	return after
}

// randomOrders returns orders of at most most elements, some with few and some with many elements in their lists.
func randomOrders(seed int64, many, most int) [][][]int {
	r := rand.New(rand.NewSource(seed))
	var all [][][]int
	for range many {
		all = append(all, randomOrder(r, r.Intn(most+1), 1+r.Intn(6)))
	}
	return all
}

// largeOrders are of the greatest size, or nearly.
func largeOrders(seed int64, many int) [][][]int {
	r := rand.New(rand.NewSource(seed))
	all := [][][]int{loose(12), tight(12), ladder(12), backwards(tight(12)), backwards(ladder(11))}
	for range many {
		all = append(all, randomOrder(r, 10+r.Intn(3), 2+r.Intn(10)))
	}
	return all
}

// relation is an order as its pairs: whether i comes before j.
type relation [][]bool

func relationOf(after [][]int) relation {
	pairs := make(relation, len(after))
	for i := range after {
		for j := range after {
			pairs[i] = append(pairs[i], goesBefore(after, i, j, len(after)))
		}
	}
	return pairs
}

// past returns what comes before an element.
func (p relation) past(j int) []int {
	return slices.DeleteFunc(upTo(len(p)), func(i int) bool { return !p[i][j] })
}

// direct returns what comes before an element, but not before another one that does.
func (p relation) direct(j int) []int {
	return slices.DeleteFunc(p.past(j), func(i int) bool {
		return slices.ContainsFunc(p.past(j), func(k int) bool { return p[i][k] })
	})
}

func (p relation) isIdeal(set int) bool {
	for _, j := range members(set) {
		if setOf(p.past(j))&^set != 0 {
			return false
		}
	}
	return true
}

// ideals returns all ideals, ascending.
func (p relation) ideals() []int {
	return slices.DeleteFunc(upTo(1<<len(p)), func(set int) bool { return !p.isIdeal(set) })
}

// enabled returns what an ideal enables.
func (p relation) enabled(ideal int) []int {
	return slices.DeleteFunc(upTo(len(p)), func(j int) bool {
		return ideal>>j&1 == 1 || setOf(p.past(j))&^ideal != 0
	})
}

func (p relation) isLine(l []int) bool {
	if !slices.Equal(slices.Sorted(slices.Values(l)), upTo(len(p))) {
		return false
	}
	for at, j := range l {
		if slices.ContainsFunc(l[:at], func(i int) bool { return p[j][i] }) {
			return false
		}
	}
	return true
}

// lines returns all lines, in their order.
func (p relation) lines() [][]int {
	lines := slices.DeleteFunc(permutations(len(p)), func(l []int) bool { return !p.isLine(l) })
	slices.SortFunc(lines, slices.Compare[[]int])
	return lines
}

func permutations(n int) [][]int {
	if n == 0 {
		return [][]int{nil}
	}
	var all [][]int
	for _, l := range permutations(n - 1) {
		for at := range n {
			all = append(all, slices.Insert(slices.Clone(l), at, n-1))
		}
	}
	return all
}

// largest returns the greatest number of elements of which each two are comparable, or of which no two are.
func (p relation) largest(comparable bool) int {
	most := 0
	for set := range 1 << len(p) {
		if l := members(set); len(l) > most && p.areAll(l, comparable) {
			most = len(l)
		}
	}
	return most
}

func (p relation) areAll(l []int, comparable bool) bool {
	for at, i := range l {
		if slices.ContainsFunc(l[:at], func(j int) bool { return (p[i][j] || p[j][i]) != comparable }) {
			return false
		}
	}
	return true
}

// same reports whether two lists of lists are the same.
func same(a, b [][]int) bool { return slices.EqualFunc(a, b, slices.Equal[[]int]) }

func checkValid(t *testing.T, after [][]int, want api.Errno) {
	t.Helper()
	if e := order.Valid(after); e != want {
		t.Errorf("Valid(%v) = %d, want %d", after, e, want)
	}
}

func checkClosure(t *testing.T, after, want [][]int) {
	t.Helper()
	if l, e := order.Closure(after); !same(l, want) || e != api.OK {
		t.Errorf("Closure(%v) = %v, %d, want %v", after, l, e, want)
	}
}

func checkReduce(t *testing.T, after, want [][]int) {
	t.Helper()
	if l, e := order.Reduce(after); !same(l, want) || e != api.OK {
		t.Errorf("Reduce(%v) = %v, %d, want %v", after, l, e, want)
	}
}

func checkIsIdeal(t *testing.T, after [][]int, set int, want bool, wantE api.Errno) {
	t.Helper()
	if is, e := order.IsIdeal(after, set); is != want || e != wantE {
		t.Errorf("IsIdeal(%v, %d) = %t, %d, want %t, %d", after, set, is, e, want, wantE)
	}
}

func checkIdeals(t *testing.T, after [][]int, want []int) {
	t.Helper()
	if l, e := order.Ideals(after); !slices.Equal(l, want) || e != api.OK {
		t.Errorf("Ideals(%v) = %v, %d, want %v", after, l, e, want)
	}
}

func checkEnabled(t *testing.T, after [][]int, ideal int, want []int, wantE api.Errno) {
	t.Helper()
	if l, e := order.Enabled(after, ideal); !slices.Equal(l, want) || e != wantE {
		t.Errorf("Enabled(%v, %d) = %v, %d, want %v, %d", after, ideal, l, e, want, wantE)
	}
}

func checkCount(t *testing.T, after [][]int, want int) {
	t.Helper()
	if many, e := order.Count(after); many != want || e != api.OK {
		t.Errorf("Count(%v) = %d, %d, want %d", after, many, e, want)
	}
}

func checkNth(t *testing.T, after [][]int, k int, want []int, wantE api.Errno) {
	t.Helper()
	if l, e := order.Nth(after, k); !slices.Equal(l, want) || e != wantE {
		t.Errorf("Nth(%v, %d) = %v, %d, want %v, %d", after, k, l, e, want, wantE)
	}
}

func checkRank(t *testing.T, after [][]int, line []int, want int, wantE api.Errno) {
	t.Helper()
	if k, e := order.Rank(after, line); k != want || e != wantE {
		t.Errorf("Rank(%v, %v) = %d, %d, want %d, %d", after, line, k, e, want, wantE)
	}
}

// checkLine checks that a line and its number belong together.
func checkLine(t *testing.T, after [][]int, k int, line []int) {
	t.Helper()
	checkNth(t, after, k, line, api.OK)
	checkRank(t, after, line, k, api.OK)
}

func checkHeight(t *testing.T, after [][]int, want int) {
	t.Helper()
	if many, e := order.Height(after); many != want || e != api.OK {
		t.Errorf("Height(%v) = %d, %d, want %d", after, many, e, want)
	}
}

// checkWidth checks Width, and that Chains returns so many chains that contain each element once.
func checkWidth(t *testing.T, after [][]int, want int) {
	t.Helper()
	if many, e := order.Width(after); many != want || e != api.OK {
		t.Errorf("Width(%v) = %d, %d, want %d", after, many, e, want)
	}
	chains, e := order.Chains(after)
	if len(chains) != want || e != api.OK {
		t.Errorf("Chains(%v) = %v, %d, want %d chains", after, chains, e, want)
	}
	for _, chain := range chains {
		for at := 1; at < len(chain); at++ {
			if !goesBefore(after, chain[at-1], chain[at], len(after)) {
				t.Errorf("Chains(%v) = %v: %d does not come before %d", after, chains, chain[at-1], chain[at])
			}
		}
	}
	if all := slices.Concat(chains...); !slices.Equal(slices.Sorted(slices.Values(all)), upTo(len(after))) {
		t.Errorf("Chains(%v) = %v: not each element is there once", after, chains)
	}
	if slices.ContainsFunc(chains, func(chain []int) bool { return len(chain) == 0 }) {
		t.Errorf("Chains(%v) = %v: a chain is empty", after, chains)
	}
}

// outside returns numbers that are not from 0 to most, among them those whose last bits are those of one that is.
func outside(most int) []int {
	return []int{-1, -most - 1, most + 1, most + 2, 1 << 16, 1<<16 + most, 1 << 32, 1<<32 + most, math.MinInt, math.MinInt + most, math.MaxInt}
}
