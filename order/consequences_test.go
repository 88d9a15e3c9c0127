package order_test

import (
	"math"
	"math/rand"
	"slices"
	"testing"

	"majordomo/api"
	"majordomo/order"
)

// P10.6: the consequences.

// must returns a function that returns the result of a call, which should have no error.
func must[T any](t *testing.T) func(result T, e api.Errno) T {
	return func(result T, e api.Errno) T {
		t.Helper()
		if e != api.OK {
			t.Errorf("error %d", e)
		}
		return result
	}
}

func TestReduceLeavesOutAll(t *testing.T) {
	lists := must[[][]int](t)
	for _, after := range slices.Concat(smallOrders(), randomOrders(21, 300, 9), largeOrders(22, 50)) {
		closure, reduced := lists(order.Closure(after)), lists(order.Reduce(after))
		checkValid(t, closure, api.OK)
		checkValid(t, reduced, api.OK)
		checkClosure(t, closure, closure)
		checkClosure(t, reduced, closure)
		checkReduce(t, closure, reduced)
		checkReduce(t, reduced, reduced)
		for i, list := range reduced {
			for at := range list {
				less := slices.Clone(reduced)
				less[i] = slices.Delete(slices.Clone(list), at, at+1)
				if same(lists(order.Closure(less)), closure) {
					t.Errorf("Reduce(%v) = %v, but %v has the same Closure", after, reduced, less)
				}
			}
		}
	}
}

func TestIdealsAreBeginningsOfLines(t *testing.T) {
	number, line := must[int](t), must[[]int](t)
	for _, after := range slices.Concat(smallOrders(), randomOrders(23, 200, 7), [][][]int{tight(12), ladder(12)}) {
		var beginnings []int
		for k := range number(order.Count(after)) {
			l := line(order.Nth(after, k))
			for many := range len(l) + 1 {
				beginnings = append(beginnings, setOf(l[:many]))
			}
		}
		slices.Sort(beginnings)
		checkIdeals(t, after, slices.Compact(beginnings))
	}
}

func TestIdealsGrow(t *testing.T) {
	list := must[[]int](t)
	for _, after := range slices.Concat(smallOrders(), randomOrders(24, 200, 9), largeOrders(25, 20)) {
		grown := map[int]bool{0: true}
		for set := range 1 << len(after) { // what enables an element is a lesser number than with it
			if grown[set] {
				for _, i := range list(order.Enabled(after, set)) {
					grown[set|1<<i] = true
				}
			}
		}
		var ideals []int
		for set := range 1 << len(after) {
			if grown[set] {
				ideals = append(ideals, set)
			}
		}
		checkIdeals(t, after, ideals)
	}
}

// randomLine returns a line made by choosing again and again one of the enabled elements.
func randomLine(t *testing.T, r *rand.Rand, after [][]int) []int {
	var line []int
	for range after {
		enabled := must[[]int](t)(order.Enabled(after, setOf(line)))
		line = append(line, enabled[r.Intn(len(enabled))])
	}
	return line
}

func TestNthAndRankAreInverse(t *testing.T) {
	r := rand.New(rand.NewSource(26))
	number, lineOf := must[int](t), must[[]int](t)
	for _, after := range largeOrders(27, 60) {
		count, pairs := number(order.Count(after)), relationOf(after)
		for range 5 {
			line := randomLine(t, r, after)
			checkNth(t, after, number(order.Rank(after, line)), line, api.OK)
			k := r.Intn(count)
			checkRank(t, after, lineOf(order.Nth(after, k)), k, api.OK)
			if k > 0 && slices.Compare(lineOf(order.Nth(after, k-1)), lineOf(order.Nth(after, k))) >= 0 {
				t.Errorf("%v: the lines %d and %d are not in their order", after, k-1, k)
			}
			if !pairs.isLine(lineOf(order.Nth(after, k))) {
				t.Errorf("Nth(%v, %d) is no line", after, k)
			}
		}
		checkNth(t, after, count, nil, api.ErrRange)
		checkRank(t, after, lineOf(order.Nth(after, count-1)), count-1, api.OK)
	}
}

// fewest returns the least number of chains into which the elements from the one on can be divided, beside those that are there.
func fewest(p relation, from int, chains [][]int) int {
	if from == len(p) {
		return len(chains)
	}
	best := fewest(p, from+1, append(slices.Clone(chains), []int{from}))
	for c, chain := range chains {
		if longer := append(slices.Clone(chain), from); p.areAll(longer, true) {
			with := slices.Clone(chains)
			with[c] = longer
			best = min(best, fewest(p, from+1, with))
		}
	}
	return best
}

func TestChainsAreAsFewAsPossible(t *testing.T) {
	for _, after := range slices.Concat(smallOrders(), randomOrders(28, 300, 7)) {
		checkWidth(t, after, fewest(relationOf(after), 0, nil))
	}
}

// P10.1 and DOC.md, rules 1 and 2: invalid orders, in each function, before anything else that is invalid.

// answer is all that a call returns: of its results those that it has.
type answer struct {
	lists [][]int
	list  []int
	many  int
	is    bool
	e     api.Errno
}

func (a answer) equals(b answer) bool {
	return same(a.lists, b.lists) && slices.Equal(a.list, b.list) && a.many == b.many && a.is == b.is && a.e == b.e
}

// copied returns an answer with other memory.
func (a answer) copied() answer {
	a.list = slices.Clone(a.list)
	var lists [][]int
	for _, l := range a.lists {
		lists = append(lists, slices.Clone(l))
	}
	a.lists = lists
	return a
}

// call is a call of a function with an order.
type call struct {
	name string
	with func(after [][]int) answer
}

func listsCall(name string, f func(after [][]int) ([][]int, api.Errno)) call {
	return call{name, func(after [][]int) (a answer) {
		a.lists, a.e = f(after)
		return a
	}}
}

func listCall(name string, f func(after [][]int) ([]int, api.Errno)) call {
	return call{name, func(after [][]int) (a answer) {
		a.list, a.e = f(after)
		return a
	}}
}

func numberCall(name string, f func(after [][]int) (int, api.Errno)) call {
	return call{name, func(after [][]int) (a answer) {
		a.many, a.e = f(after)
		return a
	}}
}

func isIdealCall(set int) call {
	return call{"IsIdeal", func(after [][]int) (a answer) {
		a.is, a.e = order.IsIdeal(after, set)
		return a
	}}
}

func enabledCall(ideal int) call {
	return listCall("Enabled", func(after [][]int) ([]int, api.Errno) { return order.Enabled(after, ideal) })
}

func nthCall(k int) call {
	return listCall("Nth", func(after [][]int) ([]int, api.Errno) { return order.Nth(after, k) })
}

func rankCall(line ...int) call {
	return numberCall("Rank", func(after [][]int) (int, api.Errno) { return order.Rank(after, line) })
}

// calls returns calls of all functions, those with two arguments with a second one that may be valid, and with some that are not.
func calls() []call {
	return []call{
		{"Valid", func(after [][]int) answer { return answer{e: order.Valid(after)} }},
		listsCall("Closure", order.Closure), listsCall("Reduce", order.Reduce), listsCall("Chains", order.Chains),
		listCall("Ideals", order.Ideals), numberCall("Count", order.Count),
		numberCall("Height", order.Height), numberCall("Width", order.Width),
		isIdealCall(0), isIdealCall(1), isIdealCall(-1), isIdealCall(math.MaxInt),
		enabledCall(0), enabledCall(2), enabledCall(-1), enabledCall(math.MaxInt),
		nthCall(0), nthCall(1), nthCall(-1), nthCall(math.MaxInt),
		rankCall(), rankCall(0), rankCall(0, 1), rankCall(1, 0), rankCall(0, 1, 2), rankCall(-1), rankCall(0, 0, 0), rankCall(math.MinInt),
	}
}

// faulty returns orders that have an error, of several ones the one that comes first.
func faulty() map[api.Errno][][][]int {
	return map[api.Errno][][][]int{
		api.ErrArg:   {loose(13), ladder(20), {{1, 1}, nil}, {nil, nil, {1, 0}}, {{0}, {1}, {9, 8}}, {{1}, {0}, {1, 0}}},
		api.ErrRange: {{{0}}, {{1}}, {{-1}}, {nil, {2}}, {nil, {-1, 0}}, {nil, {math.MinInt, math.MaxInt}}, {{1}, {0}, {2}}},
		api.ErrCycle: {{{1}, {0}}, {{1}, {0}, nil}, {{1}, {2}, {0}}, append([][]int{{11}}, ladder(12)[1:]...)},
	}
}

func TestFaultyOrders(t *testing.T) {
	for want, orders := range faulty() {
		for _, after := range orders {
			for _, c := range calls() {
				if got := c.with(after); !got.equals(answer{e: want}) {
					t.Errorf("%s(%v): %v, want nothing, %d", c.name, after, got, want)
				}
			}
		}
	}
}

// DOC.md, rules 2 to 5: nil and empty lists are the same, arguments stay as they are, results share no memory, equal arguments give equal results.

func TestNilAndEmpty(t *testing.T) {
	for _, c := range calls() {
		if one, two := c.with(nil), c.with([][]int{}); !one.equals(two) {
			t.Errorf("%s: %v with nil, %v with an empty list", c.name, one, two)
		}
		if one, two := c.with([][]int{nil, {0}, nil}), c.with([][]int{{}, {0}, {}}); !one.equals(two) {
			t.Errorf("%s: %v with nil lists, %v with empty ones", c.name, one, two)
		}
	}
	checkRank(t, nil, nil, 0, api.OK)
	checkRank(t, nil, []int{}, 0, api.OK)
	checkIsIdeal(t, nil, 0, true, api.OK)
	checkEnabled(t, nil, 0, nil, api.OK)
	checkNth(t, nil, 0, nil, api.OK)
	checkIdeals(t, nil, []int{0})
}

// spoil changes all the memory of a list.
func spoil(l []int) {
	l = l[:cap(l)]
	for i := range l {
		l[i] = -7777
	}
}

// roomy returns lists with room behind each of them and behind all, filled with 77.
func roomy(lists [][]int) [][]int {
	var l [][]int
	for _, list := range lists {
		l = append(l, append(slices.Clone(list), 77, 77)[:len(list)])
	}
	return append(l, []int{77}, []int{77})[:len(lists)]
}

// checkUnspoilt checks that lists that roomy returned are still the same as others, with their room.
func checkUnspoilt(t *testing.T, lists, as [][]int) {
	t.Helper()
	for i, list := range lists[:len(as)] {
		if !slices.Equal(list[:len(as[i])+2], append(slices.Clone(as[i]), 77, 77)) {
			t.Errorf("the list %v of %v was changed to %v", as[i], as, list)
		}
	}
	if room := lists[len(as) : len(as)+2]; !same(room, [][]int{{77}, {77}}) {
		t.Errorf("behind %v something was written: %v", as, room)
	}
}

func TestMemoryOfArguments(t *testing.T) {
	all := slices.Concat(randomOrders(31, 100, 7), largeOrders(32, 3))
	for _, orders := range faulty() {
		all = append(all, orders...)
	}
	for _, after := range all {
		handed := roomy(after)
		for _, c := range calls() {
			c.with(handed)
		}
		line, _ := order.Nth(after, 0)
		lines := roomy([][]int{line, {1, 0}, {-1}})
		for _, l := range lines {
			order.Rank(handed, l)
		}
		checkUnspoilt(t, lines, [][]int{line, {1, 0}, {-1}})
		checkUnspoilt(t, handed, after)
	}
}

func TestMemoryOfResults(t *testing.T) {
	for _, after := range slices.Concat(randomOrders(33, 200, 7), largeOrders(34, 3)) {
		for _, c := range calls() {
			handed := roomy(after)
			one := c.with(handed)
			want := one.copied()
			for i, list := range one.lists {
				spoil(list)
				if !same(one.lists[i+1:], want.lists[i+1:]) {
					t.Errorf("%s(%v): lists of one result share memory", c.name, after)
				}
			}
			spoil(one.list)
			checkUnspoilt(t, handed, after)
			two := c.with(handed)
			for _, list := range handed {
				spoil(list)
			}
			if three := c.with(after); !two.equals(want) || !three.equals(want) {
				t.Errorf("%s(%v): %v at first, then %v, then %v", c.name, after, want, two, three)
			}
		}
	}
}
