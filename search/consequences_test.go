package search_test

import (
	"math"
	"math/rand"
	"slices"
	"testing"

	"majordomo/api"
	"majordomo/search"
)

// P8.6: the consequences.

func TestNoSolutionIsCheaper(t *testing.T) {
	for _, p := range randomProblems(5, 600) {
		a, cost, e := search.Solve(p)
		if e != api.OK {
			continue
		}
		checkBroken(t, p, a, nil, api.OK)
		checkCost(t, p, a, cost, api.OK)
		for other := range assignments(p.Values) {
			if l, _ := search.Broken(p, other); len(l) > 0 || slices.Equal(a, other) {
				continue
			}
			if c, _ := search.Cost(p, other); c < cost || c == cost && slices.Compare(other, a) < 0 {
				t.Errorf("%v: the solution %v costs %d, that of Solve is %v with %d", p, other, c, a, cost)
			}
		}
	}
}

// leastOf returns what Least does, and math.MaxInt if there is no solution.
func leastOf(t *testing.T, p api.Problem, prefix []int) int {
	t.Helper()
	cost, e := search.Least(p, prefix)
	switch e {
	case api.OK:
		return cost
	case api.ErrNone:
		return math.MaxInt
	}
	t.Fatalf("Least(%v, %v): error %d", p, prefix, e)
	return 0
}

func TestLeastOfLongerPrefixes(t *testing.T) {
	for _, p := range randomProblems(6, 300) {
		for prefix := range prefixes(p.Values) {
			if len(prefix) == len(p.Values) {
				continue
			}
			longer := math.MaxInt
			for value := range p.Values[len(prefix)] {
				longer = min(longer, leastOf(t, p, append(slices.Clone(prefix), value)))
			}
			if cost := leastOf(t, p, prefix); cost != longer {
				t.Errorf("%v: Least of %v is %d, of the prefixes that are longer %d", p, prefix, cost, longer)
			}
		}
		if _, cost, e := search.Solve(p); e == api.OK && cost != leastOf(t, p, nil) {
			t.Errorf("%v: Solve costs %d, Least of nothing is %d", p, cost, leastOf(t, p, nil))
		}
	}
}

func TestFewerRules(t *testing.T) {
	r := rand.New(rand.NewSource(7))
	for _, p := range randomProblems(8, 1000) {
		var demands []int
		for d := range 10 {
			if r.Intn(2) == 0 {
				demands = append(demands, d)
			}
		}
		q := search.Only(p, demands)
		many, e := search.Count(p, most)
		more, qE := search.Count(q, most)
		if e != api.OK || qE != api.OK || many > more {
			t.Errorf("%v has %d solutions, %d, with the demands %v only %d, %d", p, many, e, demands, more, qE)
		}
		if leastOf(t, p, nil) < leastOf(t, q, nil) {
			t.Errorf("%v costs %d, with the demands %v only %d", p, leastOf(t, p, nil), demands, leastOf(t, q, nil))
		}
	}
}

func TestSolutionsAndCount(t *testing.T) {
	for _, p := range randomProblems(9, 1000) {
		count, e := search.Count(p, most)
		_, _, solveE := search.Solve(p)
		_, firstE := search.First(p)
		want := api.ErrNone
		if count > 0 {
			want = api.OK
		}
		if e != api.OK || solveE != want || firstE != want {
			t.Errorf("%v: Count is %d, %d, the errors of Solve and First are %d and %d", p, count, e, solveE, firstE)
		}
	}
}

// DOC.md, rules 1 and 2 and P1: invalid arguments, in the order of the errors.

// answer is all that a call returns.
type answer struct {
	list   []int
	number int
	e      api.Errno
}

func (a answer) is(b answer) bool {
	return slices.Equal(a.list, b.list) && a.number == b.number && a.e == b.e
}

// call is a call of a function that returns an error, with what else it is given.
type call struct {
	name string
	with func(p api.Problem) answer
}

func broken(a ...int) call {
	return call{"Broken", func(p api.Problem) answer {
		l, e := search.Broken(p, a)
		return answer{list: l, e: e}
	}}
}

func costing(a ...int) call {
	return call{"Cost", func(p api.Problem) answer {
		n, e := search.Cost(p, a)
		return answer{number: n, e: e}
	}}
}

func least(prefix ...int) call {
	return call{"Least", func(p api.Problem) answer {
		n, e := search.Least(p, prefix)
		return answer{number: n, e: e}
	}}
}

func count(greatest int) call {
	return call{"Count", func(p api.Problem) answer {
		n, e := search.Count(p, greatest)
		return answer{number: n, e: e}
	}}
}

func solve() call {
	return call{"Solve", func(p api.Problem) answer {
		l, n, e := search.Solve(p)
		return answer{l, n, e}
	}}
}

func first() call {
	return call{"First", func(p api.Problem) answer {
		l, e := search.First(p)
		return answer{list: l, e: e}
	}}
}

// rightCalls are calls that are no error for the example; with wrongCalls they are ErrRange.
func rightCalls() []call {
	return []call{
		solve(), first(), broken(0, 0, 0), broken(1, 2, 1), costing(0, 0, 0), costing(1, 2, 1),
		least(), least(1), least(0, 2), least(1, 2, 1), count(0), count(1), count(3), count(most),
	}
}

func wrongCalls() []call {
	l := []call{broken(), broken(0), broken(0, 0), costing(), costing(0), costing(0, 0)}
	for _, a := range [][]int{{2, 0, 0}, {0, 3, 0}, {0, 0, 2}, {-1, 0, 0}, {0, -1, 0}, {0, 0, -1}, {math.MinInt, 0, 0}, {0, 0, math.MaxInt}, {0, 0, 0, 0}, {0, 0, 0, -1}, make([]int, 1<<16)} {
		l = append(l, broken(a...), costing(a...), least(a...))
	}
	for _, prefix := range [][]int{{2}, {-1}, {1, 3}, {1, -1}, {-1, 0}, {2, 0}, {math.MaxInt}, {0, math.MinInt}, {0, 0, 16}} { // the last ones have no solutions either
		l = append(l, least(prefix...), broken(prefix...), costing(prefix...))
	}
	for _, n := range outside(0, most) {
		l = append(l, count(n))
	}
	return l
}

func checkNothing(t *testing.T, c call, p api.Problem, why string, want api.Errno) {
	t.Helper()
	if got := c.with(p); !got.is(answer{e: want}) || len(got.list) != 0 {
		t.Errorf("%s, %s: %v, want nothing, %d", c.name, why, got, want)
	}
}

func TestOutOfRange(t *testing.T) {
	for _, c := range rightCalls() {
		if got := c.with(example()); got.e != api.OK {
			t.Errorf("%s of the example: error %d", c.name, got.e)
		}
	}
	for _, c := range wrongCalls() {
		checkNothing(t, c, example(), "of the example", api.ErrRange)
		checkNothing(t, c, bound(example()), "of the example, which has no solution,", api.ErrRange)
		checkNothing(t, c, search.Only(example(), nil), "of the example without rules", api.ErrRange)
	}
}

// What is ErrArg comes before what is ErrRange or ErrNone.
func TestStrangeProblems(t *testing.T) {
	for _, s := range stranges() {
		for _, c := range append(rightCalls(), wrongCalls()...) {
			checkNothing(t, c, s.problem, "with "+s.why, api.ErrArg)
		}
	}
}

func TestNoSolution(t *testing.T) {
	for _, c := range []call{solve(), first(), least(), least(0), least(1, 2), least(0, 1, 1)} {
		checkNothing(t, c, bound(example()), "without a solution", api.ErrNone)
	}
}

// DOC.md, rules 2 to 5: nil and empty lists are the same, arguments stay as they are, results share no memory, equal arguments give equal results.

func TestNilAndEmpty(t *testing.T) {
	none := api.Problem{Rules: []api.Rule{{Most: 3}}}
	empty := api.Problem{Values: []int{}, Costs: [][]int{}, Rules: []api.Rule{{Vars: []int{}, Weights: [][]int{}, Most: 3}}}
	for _, c := range append(append(rightCalls(), wrongCalls()...), broken(), costing()) {
		if a, b := c.with(none), c.with(empty); !a.is(b) {
			t.Errorf("%s: %v with nil, %v with empty lists", c.name, a, b)
		}
	}
	if a, b := search.Only(none, nil), search.Only(empty, []int{}); !same(a, b) || !search.Valid(none) || !search.Valid(empty) {
		t.Errorf("Only: %v with nil, %v with empty lists", a, b)
	}
}

func checkMemory(t *testing.T, c call, p api.Problem) {
	t.Helper()
	handed := deep(p)
	one := c.with(handed)
	want := answer{slices.Clone(one.list), one.number, one.e}
	two := c.with(handed)
	spoil(one.list)
	if !two.is(want) {
		t.Errorf("%s of %v differs when it is called again, or two results share memory: %v and %v", c.name, p, want, two)
	}
	if !unspoilt(handed, p) {
		t.Errorf("%s changed the problem %v, or shares its memory", c.name, p)
	}
}

func TestMemory(t *testing.T) {
	problems := append(randomProblems(10, 400), example(), bound(example()), api.Problem{})
	for _, p := range problems {
		whole := make([]int, len(p.Values))
		for _, c := range []call{solve(), first(), broken(whole...), broken(-1), costing(whole...), least(), least(whole...), least(whole[:len(whole)/2]...), count(3)} {
			checkMemory(t, c, p)
		}
	}
	for _, s := range stranges() {
		before := deep(s.problem)
		for _, c := range rightCalls() {
			c.with(s.problem)
		}
		if !same(before, s.problem) {
			t.Errorf("a problem with %s was changed", s.why)
		}
	}
}

func TestMemoryOfLists(t *testing.T) {
	p := example()
	for _, l := range [][]int{nil, {0, 1, 1}, {1, 0, 0}, {8, 7}, {1, 2}, {5, 5, 5, 5}} {
		handed := roomy(l)
		search.Broken(p, handed)
		search.Cost(p, handed)
		search.Least(p, handed)
		search.Only(p, handed)
		if !slices.Equal(handed[:len(l)+2], append(slices.Clone(l), 77, 77)) {
			t.Errorf("the list %v was changed", l)
		}
	}
}

// ruin changes all the memory of a problem; it reports whether two of its lists share memory.
func ruin(p api.Problem) (shared bool) {
	for _, l := range lists(p) {
		shared = shared || slices.Contains(l, math.MinInt)
		l = l[:cap(l)]
		for i := range l {
			l[i] = math.MinInt
		}
	}
	for _, rule := range p.Rules {
		clear(rule.Weights[:cap(rule.Weights)])
	}
	clear(p.Costs[:cap(p.Costs)])
	clear(p.Rules[:cap(p.Rules)])
	return shared
}

func TestMemoryOfOnly(t *testing.T) {
	demands := []int{0, 1, 2, 3, 7, 8}
	for _, p := range append(randomProblems(11, 300), example()) {
		if len(p.Values) > 0 { // one list that stands in many places
			row := p.Costs[0]
			p.Rules = append(p.Rules, api.Rule{Vars: []int{0}, Weights: [][]int{row}}, api.Rule{Vars: []int{0}, Weights: [][]int{row}})
		}
		handed := deep(p)
		one, two, three := search.Only(p, demands), search.Only(handed, demands), search.Only(handed, demands)
		if ruin(one) || ruin(two) {
			t.Errorf("lists of what Only of %v returns share memory", p)
		}
		if !same(p, handed) || !unspoilt(handed, p) || !same(three, search.Only(p, demands)) {
			t.Errorf("what Only of %v returns shares memory with it, or with another result", p)
		}
	}
}
