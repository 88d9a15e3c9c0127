package search

import (
	"cmp"
	"math/bits"
	"slices"

	"majordomo/api"
)

// choice is a set of values of a variable, as bits.
type choice uint16

// allOf returns the choice of the first values; if there are 16, the bit above them is lost, and all bits remain.
func allOf(values int) choice { return 1<<values - 1 }

func (c choice) has(value int) bool { return c>>value&1 == 1 }

func (c choice) size() int { return bits.OnesCount16(uint16(c)) }

// lowest returns the least value of a choice that is not empty.
func (c choice) lowest() int { return bits.TrailingZeros16(uint16(c)) }

// place is where a variable stands in a rule: the weights that its values have there.
type place struct {
	rule    int
	weights []int
}

// change is a variable with the values that it had before.
type change struct {
	variable int
	was      choice
}

// rest is what is left of the rules while the variables have only some of their values. The costs are the last one of the rules, so that a bound for them leaves values out as the rules do.
type rest struct {
	rules   []api.Rule
	places  [][]place // by variable
	order   [][]int   // by variable: its values, the cheapest first
	left    []choice  // by variable: never empty
	room    []int     // by rule: Most less the sum of the least weights of the values that are left
	widest  []int     // by rule: the greatest difference of two weights of a variable
	trouble []int     // by variable: how often a rule that names it could not be kept, and 1
	trail   []change
}

// whole returns what is left while all variables have all their values.
func whole(p api.Problem) *rest {
	r := &rest{rules: slices.Concat(p.Rules, []api.Rule{costs(p)}), places: make([][]place, len(p.Values))}
	for variable, values := range p.Values {
		r.order = append(r.order, cheapestFirst(p.Costs[variable]))
		r.left = append(r.left, allOf(values))
		r.trouble = append(r.trouble, 1)
	}
	for i, rule := range r.rules {
		room, widest := rule.Most, 0
		for k, variable := range rule.Vars {
			weights := rule.Weights[k]
			room -= slices.Min(weights)
			widest = max(widest, slices.Max(weights)-slices.Min(weights))
			r.places[variable] = append(r.places[variable], place{i, weights})
		}
		r.room = append(r.room, room)
		r.widest = append(r.widest, widest)
	}
	return r
}

// cheapestFirst returns the values with these costs in their order.
func cheapestFirst(costs []int) []int {
	var values []int
	for value := range costs {
		values = append(values, value)
	}
	byCost := func(a, b int) int { return cmp.Compare(costs[a], costs[b]) }
	slices.SortStableFunc(values, byCost)
	return values
}

// allow sets the bound of the costs.
func (r *rest) allow(cost int) {
	last := len(r.rules) - 1
	r.room[last] += cost - r.rules[last].Most
	r.rules[last].Most = cost
}

// take lets a variable have one value only, and reports whether the rules may be kept then.
func (r *rest) take(variable, value int) bool {
	if !r.left[variable].has(value) {
		return false
	}
	mark := len(r.trail)
	r.narrow(variable, 1<<value)
	return r.settle(mark)
}

// back takes back all changes since the trail had this length.
func (r *rest) back(mark int) {
	for len(r.trail) > mark {
		last := r.trail[len(r.trail)-1]
		r.trail = r.trail[:len(r.trail)-1]
		r.put(last.variable, last.was)
	}
}

// narrow lets a variable have only these ones of its values.
func (r *rest) narrow(variable int, c choice) {
	if c != r.left[variable] {
		r.trail = append(r.trail, change{variable, r.left[variable]})
		r.put(variable, c)
	}
}

func (r *rest) put(variable int, c choice) {
	for _, p := range r.places[variable] {
		r.room[p.rule] += leastWeight(p.weights, r.left[variable]) - leastWeight(p.weights, c)
	}
	r.left[variable] = c
}

// settleAll leaves out values until, for each rule by itself, each value that is left may be chosen. It reports whether the rules may be kept.
func (r *rest) settleAll() bool {
	mark := len(r.trail)
	for rule := range r.rules {
		if !r.prune(rule) {
			return false
		}
	}
	return r.settle(mark)
}

// settle does what settleAll does if all was settled when the trail had this length.
func (r *rest) settle(mark int) bool {
	for ; mark < len(r.trail); mark++ {
		for _, p := range r.places[r.trail[mark].variable] {
			if !r.prune(p.rule) {
				return false
			}
		}
	}
	return true
}

// prune leaves out the values that break a rule even with the least weights of all other variables. It reports whether the rule may be kept; then the least weights are left.
func (r *rest) prune(i int) bool {
	rule, room := r.rules[i], r.room[i]
	switch {
	case room < 0:
		for _, variable := range rule.Vars {
			r.trouble[variable]++
		}
		return false
	case room >= r.widest[i]:
		return true // no value can be too much
	}
	for k, variable := range rule.Vars {
		r.narrow(variable, fitting(rule.Weights[k], r.left[variable], room))
	}
	return true
}

// leastWeight returns the least weight of the values of a choice.
func leastWeight(weights []int, c choice) int {
	least := weights[c.lowest()]
	for c &= c - 1; c != 0; c &= c - 1 {
		least = min(least, weights[c.lowest()])
	}
	return least
}

// fitting returns the values of a choice whose weights are greater than the least one by at most room.
func fitting(weights []int, c choice, room int) choice {
	least, fits := leastWeight(weights, c), choice(0)
	for ; c != 0; c &= c - 1 {
		if value := c.lowest(); weights[value]-least <= room {
			fits |= 1 << value
		}
	}
	return fits
}
