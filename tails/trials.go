package tails

import "majordomo/api"

// trials are independent trials that fail with the same rate. Each of them has as many outcomes as the rate's Den, all equally likely, and as many of these as its Num are failures. Probabilities are kept as numbers of outcomes of all trials together, for whole numbers are added without a search for what can be cancelled.
type trials struct {
	many               int
	sets               []int                        // by their sizes, the numbers of sets of trials
	failing, good, all func(exponent int) api.Ratio // the outcomes of so many trials that all fail, that all do not, and all outcomes
}

// trialsWith returns n trials with a rate.
func trialsWith(n int, rate api.Ratio) trials {
	failing, all := api.Ratio{Num: rate.Num, Den: api.Nat{1}}, api.Ratio{Num: rate.Den, Den: api.Nat{1}}
	return trials{many: n, sets: sets(n), failing: powers(failing), good: powers(difference(all, failing)), all: powers(all)}
}

// sets returns how many sets of 0, of 1 and so on up to n things there are out of n things. An int has room for each of these numbers.
func sets(n int) []int {
	row := make([]int, n+1)
	row[0] = 1
	for range n {
		for size := n; size > 0; size-- {
			row[size] += row[size-1] // those without one more thing, and those with it
		}
	}
	return row
}

// exactly returns the number of outcomes in which exactly k trials fail.
func (t trials) exactly(k int) api.Ratio {
	return product(whole(t.sets[k]), product(t.failing(k), t.good(t.many-k)))
}

// fromLast yields for each number of failures, from the greatest one on, the number of outcomes with exactly so many.
func (t trials) fromLast(yield func(k int, exactly api.Ratio) bool) {
	for k := t.many; k >= 0; k-- {
		if !yield(k, t.exactly(k)) {
			return
		}
	}
}

// probability returns how probable it is that the outcome is one of so many.
func (t trials) probability(outcomes api.Ratio) api.Ratio {
	return quotient(outcomes, t.all(t.many))
}

// tail returns the probability that at least k trials fail.
func (t trials) tail(k int) api.Ratio {
	var parts []api.Ratio
	for failures, exactly := range t.fromLast {
		if failures < k {
			break
		}
		parts = append(parts, exactly)
	}
	return t.probability(sum(parts...))
}

// critical returns the least number of failures whose tail is at most a bound.
func (t trials) critical(bound api.Ratio) int {
	least, tail := t.many+1, sum()
	for k, exactly := range t.fromLast {
		tail = sum(tail, exactly)
		if isAbove(t.probability(tail), bound) {
			break
		}
		least = k
	}
	return least
}
