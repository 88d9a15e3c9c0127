package search_test

import (
	"math"
	"math/rand"
	"slices"
	"testing"

	"majordomo/api"
	"majordomo/search"
)

// P8.1: Valid, Broken and Cost.

// full returns a problem with as many variables, values and rules as there may be, and all numbers at their ends.
func full() api.Problem {
	p := free(slices.Repeat([]int{api.MaxValues}, api.MaxVars)...)
	rule := api.Rule{Demand: most, Most: mostM}
	for v := range p.Values {
		p.Costs[v][0], p.Costs[v][15] = most, most
		rule.Vars = append(rule.Vars, v)
		rule.Weights = append(rule.Weights, slices.Repeat([]int{mostW, -mostW}, 8))
	}
	p.Rules = slices.Repeat([]api.Rule{rule}, api.MaxRules)
	for i := range p.Rules {
		p.Rules[i].Most -= i % 2 * 2 * mostM
	}
	return p
}

func TestValid(t *testing.T) {
	for _, p := range append(randomProblems(1, 200),
		example(), full(), api.Problem{}, bound(api.Problem{}),
		api.Problem{Values: []int{}, Costs: [][]int{}, Rules: []api.Rule{}},
		api.Problem{Values: []int{1}, Costs: [][]int{{most}}, Rules: []api.Rule{{Vars: []int{}, Weights: [][]int{}}}},
		free(1), free(16), free(16, 1, 16),
		api.Problem{Values: []int{1}, Costs: [][]int{{0}}, Rules: []api.Rule{{Vars: []int{0}, Weights: [][]int{{-mostW}}, Most: -mostM}}}) {
		if !search.Valid(p) {
			t.Errorf("not valid: %v", p)
		}
	}
	for _, s := range stranges() {
		if search.Valid(s.problem) {
			t.Errorf("valid, with %s", s.why)
		}
	}
}

func checkBroken(t *testing.T, p api.Problem, a, want []int, wantE api.Errno) {
	t.Helper()
	if l, e := search.Broken(p, a); !slices.Equal(l, want) || e != wantE {
		t.Errorf("Broken(%v, %v) = %v, %d, want %v, %d", p, a, l, e, want, wantE)
	}
}

func checkCost(t *testing.T, p api.Problem, a []int, want int, wantE api.Errno) {
	t.Helper()
	if cost, e := search.Cost(p, a); cost != want || e != wantE {
		t.Errorf("Cost(%v, %v) = %d, %d, want %d, %d", p, a, cost, e, want, wantE)
	}
}

func TestExampleOfBroken(t *testing.T) {
	checkBroken(t, example(), []int{0, 0, 0}, []int{0}, api.OK)
	checkBroken(t, example(), []int{1, 0, 1}, []int{1}, api.OK)
	checkBroken(t, example(), []int{1, 0}, nil, api.ErrRange)
	checkBroken(t, example(), []int{1, 2, 0}, nil, api.OK)
	checkBroken(t, bound(example()), []int{0, 0, 0}, []int{0, 2}, api.OK)
	checkCost(t, example(), []int{1, 2, 0}, 9, api.OK)
	checkCost(t, example(), []int{0, 0, 1}, 1, api.OK)
	checkCost(t, example(), []int{1, 0}, 0, api.ErrRange)
}

func TestBrokenAndCost(t *testing.T) {
	for _, p := range randomProblems(2, 200) {
		for a := range assignments(p.Values) {
			checkBroken(t, p, a, breaks(p, a), api.OK)
			checkCost(t, p, a, costOf(p, a), api.OK)
		}
	}
}

// A rule is broken if its sum is greater than Most, not if it is Most.
func TestEndsOfSums(t *testing.T) {
	p := full()
	low, high := make([]int, 24), slices.Repeat([]int{1}, 24)
	p.Rules = slices.Repeat(p.Rules[:1], 6)
	for i, n := range []int{24*mostW - 1, 24 * mostW, 24*mostW + 1, -24*mostW - 1, -24 * mostW, -24*mostW + 1} {
		p.Rules[i].Most = n
	}
	checkBroken(t, p, low, []int{0, 3, 4, 5}, api.OK)
	checkBroken(t, p, high, []int{3}, api.OK)
	checkCost(t, p, low, 24*most, api.OK)
	checkCost(t, p, high, 0, api.OK)
	odd := full()
	all := slices.Repeat([]int{15}, 24)
	want := []int{}
	for i := 1; i < api.MaxRules; i += 2 {
		want = append(want, i)
	}
	checkBroken(t, odd, all, want, api.OK)
	checkCost(t, odd, all, 24*most, api.OK)
}

func TestWithoutVariables(t *testing.T) {
	p := api.Problem{Rules: []api.Rule{{Most: 0}, {Most: -1}, {Most: 1}, {Most: -mostM}}}
	checkBroken(t, p, nil, []int{1, 3}, api.OK)
	checkBroken(t, p, []int{}, []int{1, 3}, api.OK)
	checkBroken(t, p, []int{0}, nil, api.ErrRange)
	checkCost(t, p, nil, 0, api.OK)
	checkSolutions(t, p)
	p.Rules = p.Rules[:1]
	checkSolutions(t, p)
	checkSolutions(t, api.Problem{})
}

// P8.2: Only.

func TestOnly(t *testing.T) {
	p := example()
	p.Rules = append(p.Rules, p.Rules[0], api.Rule{Demand: 0, Most: 3}, api.Rule{Demand: most})
	for _, c := range []struct{ demands, want []int }{
		{nil, nil},
		{[]int{}, nil},
		{[]int{7}, []int{0, 2}},
		{[]int{8}, []int{1}},
		{[]int{8, 7}, []int{0, 1, 2}},
		{[]int{7, 7, 8, 8, 7}, []int{0, 1, 2}},
		{[]int{0, 1, 2, 3}, []int{3}},
		{[]int{most, 8}, []int{1, 4}},
		{[]int{9, -7, math.MinInt, math.MaxInt, most + 1}, nil},
		{[]int{most, 0, 8, 7, -1}, []int{0, 1, 2, 3, 4}},
	} {
		want := p
		want.Rules = nil
		for _, i := range c.want {
			want.Rules = append(want.Rules, p.Rules[i])
		}
		if q := search.Only(p, c.demands); !same(q, want) {
			t.Errorf("Only(%v, %v) = %v, want %v", p, c.demands, q, want)
		}
	}
}

func TestOnlyOfManyDemands(t *testing.T) {
	if q := search.Only(full(), slices.Repeat([]int{most}, 1<<20)); !same(q, full()) {
		t.Error("Only with the demand of all rules is not the whole problem")
	}
	if q := search.Only(full(), make([]int, 1<<20)); len(q.Values) != 24 || len(q.Rules) != 0 {
		t.Errorf("Only without the demand of all rules has %d rules", len(q.Rules))
	}
}

func TestOnlyOfStrangeProblems(t *testing.T) {
	for _, s := range stranges() {
		for _, demands := range [][]int{nil, {7}, {0, 7, 8}} {
			if q := search.Only(s.problem, demands); q.Values != nil || q.Costs != nil || q.Rules != nil {
				t.Errorf("Only of %v with %s = %v, want the zero problem", demands, s.why, q)
			}
		}
	}
}

// P8.3 to P8.5: Solve, First, Least and Count.

func checkSolve(t *testing.T, p api.Problem, want []int, wantCost int, wantE api.Errno) {
	t.Helper()
	if a, cost, e := search.Solve(p); !slices.Equal(a, want) || cost != wantCost || e != wantE {
		t.Errorf("Solve(%v) = %v, %d, %d, want %v, %d, %d", p, a, cost, e, want, wantCost, wantE)
	}
}

func checkFirst(t *testing.T, p api.Problem, want []int, wantE api.Errno) {
	t.Helper()
	if a, e := search.First(p); !slices.Equal(a, want) || e != wantE {
		t.Errorf("First(%v) = %v, %d, want %v, %d", p, a, e, want, wantE)
	}
}

func checkLeast(t *testing.T, p api.Problem, prefix []int, want int, wantE api.Errno) {
	t.Helper()
	if cost, e := search.Least(p, prefix); cost != want || e != wantE {
		t.Errorf("Least(%v, %v) = %d, %d, want %d, %d", p, prefix, cost, e, want, wantE)
	}
}

func checkCount(t *testing.T, p api.Problem, greatest, want int, wantE api.Errno) {
	t.Helper()
	if n, e := search.Count(p, greatest); n != want || e != wantE {
		t.Errorf("Count(%v, %d) = %d, %d, want %d, %d", p, greatest, n, e, want, wantE)
	}
}

// checkSolutions checks Solve, First and Count, and Least without a prefix, against all solutions.
func checkSolutions(t *testing.T, p api.Problem) {
	t.Helper()
	l := solutions(p)
	for _, greatest := range []int{0, 1, 2, len(l) - 1, len(l), len(l) + 1, most} {
		if greatest >= 0 {
			checkCount(t, p, greatest, min(greatest, len(l)), api.OK)
		}
	}
	if len(l) == 0 {
		checkSolve(t, p, nil, 0, api.ErrNone)
		checkFirst(t, p, nil, api.ErrNone)
		checkLeast(t, p, nil, 0, api.ErrNone)
		return
	}
	best := cheapest(l)
	checkSolve(t, p, best.a, best.cost, api.OK)
	checkFirst(t, p, l[0].a, api.OK)
	checkLeast(t, p, nil, best.cost, api.OK)
}

func TestExample(t *testing.T) {
	p := example()
	checkSolve(t, p, []int{0, 1, 1}, 0, api.OK)
	checkFirst(t, p, []int{0, 1, 1}, api.OK)
	checkCount(t, p, 100, 4, api.OK)
	checkCount(t, p, 2, 2, api.OK)
	checkLeast(t, p, []int{1}, 9, api.OK)
	checkLeast(t, p, []int{0, 0}, 0, api.ErrNone)
	checkLeast(t, p, []int{0, 2, 1}, 5, api.OK)
	checkLeast(t, p, nil, 0, api.OK)
	checkSolve(t, search.Only(p, []int{8}), []int{0, 1, 0}, 0, api.OK)
	checkSolutions(t, p)
	checkSolutions(t, bound(p))
}

func TestRandomProblems(t *testing.T) {
	solvable := 0
	l := randomProblems(3, 3000)
	for _, p := range l {
		checkSolutions(t, p)
		if n, _ := search.Count(p, 1); n == 1 {
			solvable++
		}
	}
	if solvable < len(l)/4 || solvable > len(l)*9/10 {
		t.Errorf("%d of %d random problems have a solution", solvable, len(l))
	}
}

func TestLeast(t *testing.T) {
	for _, p := range randomProblems(4, 300) {
		for prefix := range prefixes(p.Values) {
			if l := solutions(p, prefix...); len(l) > 0 {
				checkLeast(t, p, prefix, cheapest(l).cost, api.OK)
			} else {
				checkLeast(t, p, prefix, 0, api.ErrNone)
			}
		}
	}
}

// Of solutions that cost the same the first one comes, though others have cheaper values at the beginning.
func TestSolutionsThatCostTheSame(t *testing.T) {
	p := free(3, 3, 3)
	p.Costs = [][]int{{2, 1, 0}, {0, 1, 2}, {1, 1, 1}}
	p.Rules = []api.Rule{{Vars: []int{0, 1}, Weights: [][]int{{0, 1, 2}, {2, 1, 0}}, Most: 1}} // at least as much for 1 as for 0
	checkSolutions(t, p)
	p.Rules = []api.Rule{{Vars: []int{0, 1}, Weights: [][]int{{-2, -1, 0}, {0, 1, 2}}, Most: 0}, {Vars: []int{0, 1}, Weights: [][]int{{2, 1, 0}, {0, -1, -2}}, Most: 0}}
	checkSolutions(t, p)
	checkSolve(t, free(16, 16, 16, 16, 16, 16), make([]int, 6), 0, api.OK)
	dear := free(16, 16)
	for v := range 2 {
		for value := range 16 {
			dear.Costs[v][value] = (value + 3) / 6 * 7 % 9 // 0, 7, 5 and 3
		}
	}
	checkSolutions(t, dear)
	costly := free(4, 4, 4)
	for v := range costly.Costs {
		costly.Costs[v] = slices.Repeat([]int{most}, 4)
	}
	checkSolutions(t, costly)
}

// queens returns the problem of n queens on a board, one in each row, none of which can take another.
func queens(n int) api.Problem {
	p := free(slices.Repeat([]int{n}, n)...)
	one := func(value int) []int {
		l := make([]int, n)
		l[value] = 1
		return l
	}
	for row := range n {
		for later := row + 1; later < n; later++ {
			for column := range n {
				for _, other := range []int{column, column + later - row, column - later + row} {
					if other >= 0 && other < n {
						p.Rules = append(p.Rules, api.Rule{Vars: []int{row, later}, Weights: [][]int{one(column), one(other)}, Most: 1})
					}
				}
			}
		}
	}
	return p
}

func TestQueens(t *testing.T) {
	for n, want := range []int{1, 1, 0, 0, 2, 10, 4, 40, 92, 352} {
		checkCount(t, queens(n), most, want, api.OK)
	}
	checkFirst(t, queens(8), []int{0, 4, 7, 5, 2, 6, 1, 3}, api.OK)
	checkFirst(t, queens(3), nil, api.ErrNone)
	r := rand.New(rand.NewSource(12))
	for _, greatest := range []int{0, 1, 2, 9, 99, most} {
		p := queens(8)
		for row := range p.Costs {
			p.Costs[row] = randomNumbers(r, 8, 0, greatest)
		}
		best := cheapest(placed(p))
		checkSolve(t, p, best.a, best.cost, api.OK)
	}
}

// placed returns the places of the queens of a board, and what they cost, in lexicographic order.
func placed(board api.Problem) []solution {
	var l []solution
	var place func(a []int)
	place = func(a []int) {
		if len(a) == len(board.Values) {
			l = append(l, solution{slices.Clone(a), costOf(board, a)})
			return
		}
		for column := range board.Values {
			safe := true
			for back, other := range a {
				d := len(a) - back
				safe = safe && other != column && other != column-d && other != column+d
			}
			if safe {
				place(append(a, column))
			}
		}
	}
	place(nil)
	return l
}

// ascending returns a problem whose variables have 16 values, each of them greater by least at least than the one before it. A value costs what it is.
func ascending(vars, least int) api.Problem {
	p := free(slices.Repeat([]int{16}, vars)...)
	up, down := make([]int, 16), make([]int, 16)
	for value := range 16 {
		up[value], down[value] = value, -value
	}
	for v := 1; v < vars; v++ {
		p.Rules = append(p.Rules, api.Rule{Vars: []int{v - 1, v}, Weights: [][]int{up, down}, Most: -least})
	}
	for v := range vars {
		p.Costs[v] = up
	}
	return p
}

// Problems with up to 16^24 assignments, in which the rules leave little to try.
func TestGreatProblems(t *testing.T) {
	checkCount(t, ascending(17, 1), most, 0, api.OK)
	checkFirst(t, ascending(24, 1), nil, api.ErrNone)
	checkSolve(t, ascending(16, 1), []int{0, 1, 2, 3, 4, 5, 6, 7, 8, 9, 10, 11, 12, 13, 14, 15}, 120, api.OK)
	checkCount(t, ascending(16, 1), most, 1, api.OK)
	checkCount(t, ascending(15, 1), most, 16, api.OK)
	checkCount(t, ascending(3, 0), most, 816, api.OK)
	checkFirst(t, ascending(24, 0), make([]int, 24), api.OK)
	checkLeast(t, ascending(24, 0), []int{0, 0, 3}, 66, api.OK)
	checkLeast(t, ascending(24, 0), slices.Repeat([]int{15}, 24), 360, api.OK)
	checkLeast(t, ascending(24, 0), append(slices.Repeat([]int{15}, 23), 14), 0, api.ErrNone)
	checkCount(t, full(), most, 0, api.OK)
	p := full()
	for i := range p.Rules {
		p.Rules[i].Most = -24*mostW + 2*mostW*(i/2047)
	}
	checkFirst(t, p, slices.Repeat([]int{1}, 24), api.OK)
	checkSolve(t, p, slices.Repeat([]int{1}, 24), 0, api.OK)
	checkCount(t, free(slices.Repeat([]int{16}, 24)...), most, most, api.OK)
	checkCount(t, free(slices.Repeat([]int{16}, 24)...), most-1, most-1, api.OK)
}

// The rules that the chapter names as what one kind of rules is enough for.
func TestKindsOfRules(t *testing.T) {
	vars := []int{0, 1, 2, 3}
	each := func(w ...int) [][]int {
		var l [][]int
		for _, n := range w {
			l = append(l, []int{0, n})
		}
		return l
	}
	for _, c := range []struct {
		rule api.Rule
		want int
	}{
		{api.Rule{Vars: vars, Weights: each(-1, -1, -1, -1), Most: -3}, 5},     // at least 3 of these
		{api.Rule{Vars: vars, Weights: each(1, 1, 1, 1), Most: 1}, 5},          // at most one
		{api.Rule{Vars: vars[:2], Weights: each(1, 1), Most: 1}, 12},           // not both
		{api.Rule{Vars: vars, Weights: each(1, -1, -1, -1), Most: 0}, 8 + 7},   // if 0 then some of the others
		{api.Rule{Vars: vars, Weights: each(3, -1, -1, -1), Most: 0}, 8 + 1},   // if 0 then all of the others
		{api.Rule{Vars: vars, Weights: each(1, 1, 1, 1), Most: 4}, 16},         // anything
		{api.Rule{Vars: vars, Weights: each(1, 1, 1, 1), Most: -1}, 0},         // nothing
		{api.Rule{Vars: vars, Weights: each(-1, -1, -1, -1), Most: -5}, 0},     // too much
		{api.Rule{Vars: vars, Weights: each(-1, -1, -1, -1), Most: -mostM}, 0}, // far too much
	} {
		p := free(2, 2, 2, 2)
		p.Rules = []api.Rule{c.rule}
		checkCount(t, p, most, c.want, api.OK)
		checkSolutions(t, p)
	}
}
