package search_test

import (
	"iter"
	"math"
	"math/rand"
	"slices"

	"majordomo/api"
)

const (
	most  = api.MaxNumber // of a cost, a demand and a count
	mostW = api.MaxCap    // of a weight
	mostM = api.MaxMost   // of a Most
)

// example is the problem of the chapter's examples.
func example() api.Problem {
	return api.Problem{
		Values: []int{2, 3, 2},
		Costs:  [][]int{{0, 4}, {1, 0, 5}, {0, 0}},
		Rules: []api.Rule{
			{Demand: 7, Vars: []int{0, 1, 2}, Weights: [][]int{{1, 0}, {1, 0, 0}, {1, 0}}, Most: 1},
			{Demand: 8, Vars: []int{0, 1}, Weights: [][]int{{0, 1}, {0, 0, -1}}},
		},
	}
}

// free returns a problem without rules, whose variables have so many values, all for nothing.
func free(values ...int) api.Problem {
	p := api.Problem{Values: values}
	for _, n := range values {
		p.Costs = append(p.Costs, make([]int, n))
	}
	return p
}

// bound is a problem that no assignment solves, by a rule without variables.
func bound(p api.Problem) api.Problem {
	p.Rules = append(slices.Clone(p.Rules), api.Rule{Most: -1})
	return p
}

// assignments yields all assignments of variables with so many values, in lexicographic order.
func assignments(values []int) iter.Seq[[]int] {
	return func(yield func([]int) bool) {
		a := make([]int, len(values))
		for yield(slices.Clone(a)) {
			i := len(a) - 1
			for i >= 0 && a[i] == values[i]-1 {
				a[i] = 0
				i--
			}
			if i < 0 {
				return
			}
			a[i]++
		}
	}
}

// prefixes yields all beginnings of assignments, the longest ones last.
func prefixes(values []int) iter.Seq[[]int] {
	return func(yield func([]int) bool) {
		for many := range len(values) + 1 {
			for a := range assignments(values[:many]) {
				if !yield(a) {
					return
				}
			}
		}
	}
}

// breaks returns the rules that an assignment breaks, as the chapter defines it.
func breaks(p api.Problem, a []int) []int {
	var l []int
	for i, rule := range p.Rules {
		sum := 0
		for k, v := range rule.Vars {
			sum += rule.Weights[k][a[v]]
		}
		if sum > rule.Most {
			l = append(l, i)
		}
	}
	return l
}

func costOf(p api.Problem, a []int) int {
	cost := 0
	for v, value := range a {
		cost += p.Costs[v][value]
	}
	return cost
}

// solution is an assignment that breaks no rule.
type solution struct {
	a    []int
	cost int
}

// solutions returns all solutions of a problem in lexicographic order, and those only that begin with a prefix.
func solutions(p api.Problem, prefix ...int) []solution {
	var l []solution
	for a := range assignments(p.Values) {
		if slices.Equal(a[:len(prefix)], prefix) && len(breaks(p, a)) == 0 {
			l = append(l, solution{a, costOf(p, a)})
		}
	}
	return l
}

// cheapest returns the first one of the cheapest of solutions in lexicographic order; there must be one.
func cheapest(l []solution) solution {
	return slices.MinFunc(l, func(a, b solution) int { return a.cost - b.cost })
}

// shape says what random problems are like.
type shape struct {
	vars, values, rules   int // at most so many of each
	cost, weight, demands int // up to these numbers
}

func randomProblem(r *rand.Rand, s shape) api.Problem {
	var p api.Problem
	for range r.Intn(s.vars + 1) {
		n := 1 + r.Intn(s.values)
		p.Values = append(p.Values, n)
		p.Costs = append(p.Costs, randomNumbers(r, n, 0, s.cost))
	}
	for range r.Intn(s.rules + 1) {
		p.Rules = append(p.Rules, randomRule(r, p.Values, s))
	}
	return p
}

func randomNumbers(r *rand.Rand, many, least, greatest int) []int {
	l := make([]int, many)
	for i := range l {
		l[i] = least + r.Intn(greatest-least+1)
	}
	return l
}

// randomRule returns a rule that some assignments break and others do not, mostly.
func randomRule(r *rand.Rand, values []int, s shape) api.Rule {
	rule := api.Rule{Demand: r.Intn(s.demands + 1)}
	sum := 0 // of one assignment
	for v, n := range values {
		if r.Intn(3) > 0 {
			weights := randomNumbers(r, n, -s.weight, s.weight)
			rule.Vars, rule.Weights = append(rule.Vars, v), append(rule.Weights, weights)
			sum += weights[r.Intn(n)]
		}
	}
	rule.Most = sum + []int{0, 0, 1, s.weight, -1, -s.weight / 2}[r.Intn(6)]
	return rule
}

// randomProblems are small enough that all their assignments can be tried.
func randomProblems(seed int64, many int) []api.Problem {
	shapes := []shape{
		{6, 3, 5, 1, 1, 3},        // many solutions with the same cost
		{5, 4, 8, 3, 2, 5},        // some
		{4, 4, 16, 9, 4, 9},       // few
		{3, 9, 4, most, mostW, 2}, // great numbers
		{2, 16, 3, 5, 9, most},    // many values
		{24, 1, 3, 2, 3, 4},       // one assignment only
		{9, 2, 9, most, mostW, 2}, // great numbers and two values each
		{9, 2, 6, 2, 1, 3},        // two values each
		{5, 4, 3, most, 1, 3},     // great costs
		{4, 5, 6, 0, 5, most},     // no costs
	}
	r := rand.New(rand.NewSource(seed))
	var l []api.Problem
	for i := range many {
		l = append(l, randomProblem(r, shapes[i%len(shapes)]))
	}
	return l
}

// deep returns a problem that shares no memory with another one; it has room behind each list, filled with 77.
func deep(p api.Problem) api.Problem {
	p.Values, p.Costs = roomy(p.Values), roomyLists(p.Costs)
	rules := make([]api.Rule, len(p.Rules), len(p.Rules)+2)
	for i, rule := range p.Rules {
		rule.Vars, rule.Weights = roomy(rule.Vars), roomyLists(rule.Weights)
		rules[i] = rule
	}
	p.Rules = rules
	return p
}

func roomy(l []int) []int { return append(slices.Clone(l), 77, 77)[:len(l)] }

func roomyLists(lists [][]int) [][]int {
	l := make([][]int, len(lists), len(lists)+2)
	for i, list := range lists {
		l[i] = roomy(list)
	}
	return l
}

// lists returns all lists of numbers of a problem.
func lists(p api.Problem) [][]int {
	l := append([][]int{p.Values}, p.Costs...)
	for _, rule := range p.Rules {
		l = append(l, rule.Vars)
		l = append(l, rule.Weights...)
	}
	return l
}

// same reports whether two problems are the same; nil and empty lists are.
func same(p, q api.Problem) bool {
	if !slices.Equal(p.Values, q.Values) || !slices.EqualFunc(p.Costs, q.Costs, slices.Equal) {
		return false
	}
	return slices.EqualFunc(p.Rules, q.Rules, func(a, b api.Rule) bool {
		return a.Demand == b.Demand && a.Most == b.Most && slices.Equal(a.Vars, b.Vars) && slices.EqualFunc(a.Weights, b.Weights, slices.Equal)
	})
}

// unspoilt reports whether a problem that deep returned is still the same as another one, with all its room.
func unspoilt(deeper, p api.Problem) bool {
	spoilt := func(l []int) bool { return !slices.Equal(l[len(l):len(l)+2], []int{77, 77}) }
	room := deeper.Costs[len(deeper.Costs) : len(deeper.Costs)+2]
	rules := deeper.Rules[len(deeper.Rules) : len(deeper.Rules)+2]
	for i := range 2 {
		if room[i] != nil || rules[i].Vars != nil || rules[i].Weights != nil || rules[i].Most != 0 {
			return false
		}
	}
	return same(deeper, p) && !slices.ContainsFunc(lists(deeper), spoilt)
}

// spoil changes all the memory of a list.
func spoil(l []int) {
	l = l[:cap(l)]
	for i := range l {
		l[i] -= 7777
	}
}

// strange is a problem that is not valid, and why it is not.
type strange struct {
	why     string
	problem api.Problem
}

// outside returns numbers that are not from a least to a greatest one.
func outside(least, greatest int) []int {
	return []int{least - 1, greatest + 1, greatest + 7, math.MinInt, math.MaxInt}
}

func stranges() []strange {
	var l []strange
	add := func(why string, change func(p *api.Problem)) {
		for _, p := range []api.Problem{deep(example()), bound(deep(example()))} {
			change(&p)
			l = append(l, strange{why, p})
		}
	}
	add("25 variables", func(p *api.Problem) { *p = free(slices.Repeat([]int{1}, 25)...) })
	add("very many variables", func(p *api.Problem) { *p = free(slices.Repeat([]int{2}, 1<<16)...) })
	add("no values", func(p *api.Problem) { *p = free(2, 0, 2) })
	add("17 values", func(p *api.Problem) { *p = free(2, 17) })
	for _, n := range []int{-1, 0, 2, 4, 17, math.MinInt, math.MaxInt} {
		add("a number of values that does not fit its costs", func(p *api.Problem) { p.Values[1] = n })
	}
	add("a variable without costs", func(p *api.Problem) { p.Costs = p.Costs[:2] })
	add("no costs", func(p *api.Problem) { p.Costs = nil })
	add("costs without a variable", func(p *api.Problem) { p.Costs = append(p.Costs, nil) })
	add("costs without a value", func(p *api.Problem) { p.Costs[2] = []int{0, 0, 0} })
	add("a value without a cost", func(p *api.Problem) { p.Costs[0] = []int{0} })
	for _, n := range outside(0, most) {
		add("a first cost", func(p *api.Problem) { p.Costs[0][0] = n })
		add("a last cost", func(p *api.Problem) { p.Costs[2][1] = n })
	}
	add("2049 rules", func(p *api.Problem) { p.Rules = make([]api.Rule, api.MaxRules+1) })
	for _, at := range []int{0, 1} {
		for _, s := range strangeRules() {
			add("a rule with "+s.why, func(p *api.Problem) { s.change(&p.Rules[at]) })
		}
	}
	add("a last rule that is strange", func(p *api.Problem) {
		p.Rules = append(make([]api.Rule, api.MaxRules-1), api.Rule{Vars: []int{3}, Weights: [][]int{{0, 0}}})
	})
	add("a rule for a problem without variables", func(p *api.Problem) {
		*p = api.Problem{Rules: []api.Rule{{Vars: []int{0}, Weights: [][]int{{}}}}}
	})
	return l
}

// strangeRule makes a rule of the example strange.
type strangeRule struct {
	why    string
	change func(rule *api.Rule)
}

func strangeRules() []strangeRule {
	return []strangeRule{
		{"weights for no variable", func(rule *api.Rule) { rule.Weights = append(rule.Weights, []int{0, 0}) }},
		{"a variable without weights", func(rule *api.Rule) { rule.Weights = rule.Weights[:1] }},
		{"weights only", func(rule *api.Rule) { rule.Vars = nil }},
		{"variables only", func(rule *api.Rule) { rule.Weights = nil }},
		{"a weight too much", func(rule *api.Rule) { rule.Weights[0] = []int{0, 0, 0} }},
		{"a weight too few", func(rule *api.Rule) { rule.Weights[1] = []int{0, 0} }},
		{"no weights for a variable", func(rule *api.Rule) { rule.Weights[1] = nil }},
		{"a variable twice", func(rule *api.Rule) { setVars(rule, 0, 0) }},
		{"descending variables", func(rule *api.Rule) { setVars(rule, 2, 0) }},
		{"variables that go back", func(rule *api.Rule) { setVars(rule, 0, 2, 1) }},
		{"the variable 3", func(rule *api.Rule) { setVars(rule, 0, 3) }},
		{"the variable -1", func(rule *api.Rule) { setVars(rule, -1, 0) }},
		{"the variable -1 only", func(rule *api.Rule) { setVars(rule, -1) }},
		{"a variable that is far off", func(rule *api.Rule) { setVars(rule, math.MaxInt) }},
		{"the least variable", func(rule *api.Rule) { setVars(rule, math.MinInt) }},
		{"very many variables", func(rule *api.Rule) { setVars(rule, make([]int, 1<<16)...) }},
		{"a Demand below 0", func(rule *api.Rule) { rule.Demand = -1 }},
		{"a Demand of 1 too much", func(rule *api.Rule) { rule.Demand = most + 1 }},
		{"the least Demand of all", func(rule *api.Rule) { rule.Demand = math.MinInt }},
		{"a Most of 1 too much", func(rule *api.Rule) { rule.Most = mostM + 1 }},
		{"a Most of 1 too few", func(rule *api.Rule) { rule.Most = -mostM - 1 }},
		{"the greatest Most of all", func(rule *api.Rule) { rule.Most = math.MaxInt }},
		{"the least Most of all", func(rule *api.Rule) { rule.Most = math.MinInt }},
		{"a first weight of 1 too few", func(rule *api.Rule) { rule.Weights[0][0] = -mostW - 1 }},
		{"a last weight of 1 too much", func(rule *api.Rule) { rule.Weights[1][2] = mostW + 1 }},
		{"the greatest weight of all", func(rule *api.Rule) { rule.Weights[1][0] = math.MaxInt }},
		{"the least weight of all", func(rule *api.Rule) { rule.Weights[0][1] = math.MinInt }},
	}
}

// setVars gives a rule these variables, with weights that fit a variable that is there.
func setVars(rule *api.Rule, vars ...int) {
	rule.Vars, rule.Weights = vars, nil
	for _, v := range vars {
		many := 2
		if v == 1 {
			many = 3
		}
		rule.Weights = append(rule.Weights, make([]int, many))
	}
}
