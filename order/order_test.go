package order_test

import (
	"math"
	"math/rand"
	"slices"
	"testing"

	"majordomo/api"
	"majordomo/order"
)

// P10.1: Valid.

func TestExampleOfValid(t *testing.T) {
	checkValid(t, example(), api.OK)
	checkValid(t, [][]int{{1}, {0}}, api.ErrCycle)
	checkValid(t, [][]int{{0}}, api.ErrRange)
	checkValid(t, [][]int{{2, 1}, nil, nil}, api.ErrArg)
}

func TestEdgesOfValid(t *testing.T) {
	for n := range api.MaxSteps + 1 {
		for _, after := range [][][]int{loose(n), tight(n), ladder(n), backwards(tight(n)), backwards(ladder(n))} {
			checkValid(t, after, api.OK)
		}
	}
	checkValid(t, nil, api.OK)
	checkValid(t, [][]int{{1, 2, 3, 4, 5, 6, 7, 8, 9, 10, 11}, nil, nil, nil, nil, nil, nil, nil, nil, nil, nil, {}}, api.OK)
}

func TestTooManyElements(t *testing.T) {
	for _, n := range []int{13, 14, 16, 17, 32, 64, 65, 1 << 16} {
		checkValid(t, loose(n), api.ErrArg)
		checkValid(t, tight(n), api.ErrArg)
	}
	checkValid(t, slices.Repeat([][]int{{0}}, 13), api.ErrArg)
	checkValid(t, slices.Repeat([][]int{{-1}}, 13), api.ErrArg)
	checkValid(t, append([][]int{{1}, {0}}, loose(11)...), api.ErrArg)
}

func TestDisorder(t *testing.T) {
	for _, list := range [][]int{{1, 1}, {2, 1}, {1, 2, 2}, {1, 3, 2}, {2, 2, 3}, {0, 0}, {4, 4}, {-1, -2}, {-1, -1}, {math.MaxInt, math.MinInt}, {1, math.MinInt}, make([]int, 1<<16)} {
		checkValid(t, [][]int{list, nil, nil, nil}, api.ErrArg)
		checkValid(t, [][]int{nil, nil, nil, nil, list}, api.ErrArg)
		checkValid(t, [][]int{{0}, list, nil, nil}, api.ErrArg)
		checkValid(t, [][]int{{9}, {-1}, nil, list}, api.ErrArg)
		checkValid(t, [][]int{{1}, {0}, list, nil}, api.ErrArg)
	}
}

func TestNoElement(t *testing.T) {
	for n := 1; n <= 12; n++ {
		for own := range n {
			for _, i := range append(outside(n-1), n, own, 12, 15, 16, 64) {
				if i >= 0 && i < n && i != own {
					continue
				}
				after := tight(n)
				after[own] = []int{i}
				checkValid(t, after, api.ErrRange)
				for other := range min(n, max(i, 0)) { // in a longer list, and beside a cycle
					after = slices.Repeat([][]int{{other}}, n)
					after[other] = []int{(other + 1) % n}
					after[own] = []int{other, i}
					checkValid(t, after, api.ErrRange)
				}
			}
		}
	}
	checkValid(t, [][]int{{1}, {0}, {2}}, api.ErrRange)
	checkValid(t, [][]int{{1}, {0}, {3}}, api.ErrRange)
	checkValid(t, [][]int{{1}, {0}, {math.MinInt, -1, 0, 1}}, api.ErrRange)
	checkValid(t, [][]int{nil, upTo(1 << 16)}, api.ErrRange)
}

func TestCycle(t *testing.T) {
	for n := 2; n <= 12; n++ {
		for first := range n - 1 {
			for last := first + 1; last < n; last++ {
				after := tight(n)
				after[first] = append(after[first], last)
				checkValid(t, after, api.ErrCycle)
				checkValid(t, backwards(after), api.ErrCycle)
			}
		}
	}
	for n := range 5 {
		for _, after := range graphs(n) {
			want := api.OK
			if hasCycle(after) {
				want = api.ErrCycle
			}
			checkValid(t, after, want)
		}
	}
}

// P10.2: Closure and Reduce.

func TestExampleOfClosureAndReduce(t *testing.T) {
	checkClosure(t, example(), [][]int{nil, nil, {0, 1}, {0, 1, 2}})
	checkReduce(t, example(), [][]int{nil, nil, {0, 1}, {2}})
}

func TestEdgesOfClosureAndReduce(t *testing.T) {
	for n := range api.MaxSteps + 1 {
		checkClosure(t, loose(n), loose(n))
		checkReduce(t, loose(n), loose(n))
		for _, after := range [][][]int{tight(n), ladder(n)} {
			checkClosure(t, after, ladder(n))
			checkReduce(t, after, tight(n))
			checkClosure(t, backwards(after), backwards(ladder(n)))
			checkReduce(t, backwards(after), backwards(tight(n)))
		}
	}
	// by two ways, by a long way, and by one that goes up and down
	checkReduce(t, [][]int{nil, {0}, {0}, {0, 1, 2}}, [][]int{nil, {0}, {0}, {1, 2}})
	checkReduce(t, [][]int{{4}, {0, 2, 3, 4}, {3}, {0}, nil}, [][]int{{4}, {2}, {3}, {0}, nil})
	checkClosure(t, [][]int{{4}, {2}, {3}, {0}, nil}, [][]int{{4}, {0, 2, 3, 4}, {0, 3, 4}, {0, 4}, nil})
}

func TestClosureAndReduce(t *testing.T) {
	for _, after := range slices.Concat(smallOrders(), randomOrders(1, 600, 8), largeOrders(2, 100)) {
		pairs := relationOf(after)
		var past, direct [][]int
		for i := range after {
			past, direct = append(past, pairs.past(i)), append(direct, pairs.direct(i))
		}
		checkClosure(t, after, past)
		checkReduce(t, after, direct)
	}
}

// P10.3: IsIdeal, Ideals and Enabled.

func TestExampleOfIdeals(t *testing.T) {
	checkIdeals(t, example(), []int{0, 1, 2, 3, 7, 15})
	checkEnabled(t, example(), 2, []int{0}, api.OK)
	checkEnabled(t, example(), 4, nil, api.ErrBroken)
	checkIsIdeal(t, example(), 3, true, api.OK)
	checkIsIdeal(t, example(), 5, false, api.OK)
}

func TestEdgesOfIdeals(t *testing.T) {
	for n := range api.MaxSteps + 1 {
		checkIdeals(t, loose(n), upTo(1<<n))
		checkEnabled(t, loose(n), 0, upTo(n), api.OK)
		checkEnabled(t, loose(n), 1<<n-1, nil, api.OK)
		for _, after := range [][][]int{tight(n), ladder(n)} {
			var beginnings, ends []int
			for many := range n + 1 {
				beginning, end := setOf(upTo(many)), setOf(upTo(n)[n-many:])
				beginnings, ends = append(beginnings, beginning), append(ends, end)
				checkIsIdeal(t, after, beginning, true, api.OK)
				checkEnabled(t, after, beginning, upTo(n)[many:min(many+1, n)], api.OK)
				if many > 0 && many < n {
					checkIsIdeal(t, after, 1<<many, false, api.OK)
					checkEnabled(t, after, 1<<many, nil, api.ErrBroken)
					checkEnabled(t, after, end, nil, api.ErrBroken)
				}
			}
			checkIdeals(t, after, beginnings)
			checkIdeals(t, backwards(after), ends)
		}
	}
}

func TestIdeals(t *testing.T) {
	for _, after := range slices.Concat(smallOrders(), randomOrders(3, 300, 7), largeOrders(4, 8)) {
		pairs := relationOf(after)
		ideals := pairs.ideals()
		checkIdeals(t, after, ideals)
		for set := range 1 << len(after) {
			if _, is := slices.BinarySearch(ideals, set); is {
				checkIsIdeal(t, after, set, true, api.OK)
				checkEnabled(t, after, set, pairs.enabled(set), api.OK)
			} else {
				checkIsIdeal(t, after, set, false, api.OK)
				checkEnabled(t, after, set, nil, api.ErrBroken)
			}
		}
	}
}

func TestSetsOutOfRange(t *testing.T) {
	for n := range api.MaxSteps + 1 {
		for _, after := range [][][]int{loose(n), tight(n), backwards(tight(n))} {
			for _, set := range append(outside(1<<n-1), 1<<(n+1)-1, 1<<12, 1<<62) {
				checkIsIdeal(t, after, set, false, api.ErrRange)
				checkEnabled(t, after, set, nil, api.ErrRange)
			}
		}
	}
}

// P10.4: Count, Nth and Rank.

func TestExampleOfLines(t *testing.T) {
	checkCount(t, example(), 2)
	checkNth(t, example(), 1, []int{1, 0, 2, 3}, api.OK)
	checkRank(t, example(), []int{0, 1, 2, 3}, 0, api.OK)
	checkRank(t, example(), []int{0, 2, 1, 3}, 0, api.ErrBroken)
}

func TestEdgesOfLines(t *testing.T) {
	all := 1
	for n := range api.MaxSteps + 1 {
		all *= max(n, 1)
		last := slices.Clone(upTo(n))
		slices.Reverse(last)
		checkCount(t, loose(n), all)
		checkLine(t, loose(n), 0, upTo(n))
		checkLine(t, loose(n), all-1, last)
		checkNth(t, loose(n), all, nil, api.ErrRange)
		for _, after := range [][][]int{tight(n), ladder(n)} {
			checkCount(t, after, 1)
			checkLine(t, after, 0, upTo(n))
			checkCount(t, backwards(after), 1)
			checkLine(t, backwards(after), 0, last)
			checkNth(t, after, 1, nil, api.ErrRange)
		}
	}
}

func TestManyLines(t *testing.T) {
	// of the 12! lines of 12 loose elements, 11! begin with each of them, and so on
	checkLine(t, loose(12), 39916800, []int{1, 0, 2, 3, 4, 5, 6, 7, 8, 9, 10, 11})
	checkLine(t, loose(12), 39916799, []int{0, 11, 10, 9, 8, 7, 6, 5, 4, 3, 2, 1})
	checkLine(t, loose(12), 7*39916800+3*3628800+2, []int{7, 3, 0, 1, 2, 4, 5, 6, 8, 10, 9, 11})
	// two chains of 6: 12 over 6; pairs: 12! / 2^6; a tree: 7! / (7 * 3 * 3)
	checkCount(t, [][]int{nil, {0}, {1}, {2}, {3}, {4}, nil, {6}, {7}, {8}, {9}, {10}}, 924)
	checkCount(t, [][]int{nil, {0}, nil, {2}, nil, {4}, nil, {6}, nil, {8}, nil, {10}}, 7484400)
	checkCount(t, [][]int{nil, {0}, {0}, {1}, {1}, {2}, {2}}, 80)
	// a zigzag of 12 elements: the Euler number E12
	checkCount(t, [][]int{nil, {0, 2}, nil, {2, 4}, nil, {4, 6}, nil, {6, 8}, nil, {8, 10}, nil, {10}}, 2702765)
}

func TestLines(t *testing.T) {
	for _, after := range slices.Concat(smallOrders(), randomOrders(5, 300, 6), randomOrders(6, 20, 7)) {
		lines := relationOf(after).lines()
		checkCount(t, after, len(lines))
		for k, line := range lines {
			checkLine(t, after, k, line)
		}
		for _, k := range append(outside(len(lines)-1), len(lines)) {
			checkNth(t, after, k, nil, api.ErrRange)
		}
	}
}

func TestNoLine(t *testing.T) {
	for _, after := range slices.Concat(smallOrders(), randomOrders(7, 100, 6)) {
		pairs := relationOf(after)
		for _, l := range permutations(len(after)) {
			if !pairs.isLine(l) {
				checkRank(t, after, l, 0, api.ErrBroken)
			}
		}
	}
	r := rand.New(rand.NewSource(8))
	for n := range api.MaxSteps + 1 {
		for _, after := range [][][]int{loose(n), tight(n), randomOrder(r, n, 4)} {
			line, e := order.Nth(after, 0)
			if e != api.OK {
				t.Errorf("Nth(%v, 0): error %d", after, e)
			}
			for at := range line {
				for _, i := range append(outside(n-1), line[(at+1)%n]+n, line[at]-n, line[at]+16, line[at]+64) {
					wrong := slices.Clone(line)
					wrong[at] = i
					checkRank(t, after, wrong, 0, api.ErrBroken)
					checkRank(t, after, slices.Insert(slices.Clone(line), at, i), 0, api.ErrBroken)
				}
				twice := slices.Clone(line)
				if twice[at] = line[0]; at > 0 {
					checkRank(t, after, twice, 0, api.ErrBroken)
				}
				checkRank(t, after, line[:at], 0, api.ErrBroken)
				checkRank(t, after, slices.Insert(slices.Clone(line), at, line[at]), 0, api.ErrBroken)
			}
			checkRank(t, after, append(slices.Clone(line), n), 0, api.ErrBroken)
			checkRank(t, after, append(slices.Clone(line), upTo(1<<16)...), 0, api.ErrBroken)
			checkRank(t, after, make([]int, 1<<16), 0, api.ErrBroken)
		}
	}
}

// P10.5: Height, Width and Chains.

func TestExampleOfSizes(t *testing.T) {
	checkHeight(t, example(), 3)
	checkWidth(t, example(), 2)
}

func TestEdgesOfSizes(t *testing.T) {
	for n := range api.MaxSteps + 1 {
		checkHeight(t, loose(n), min(n, 1))
		checkWidth(t, loose(n), n)
		for _, after := range [][][]int{tight(n), ladder(n), backwards(tight(n)), backwards(ladder(n))} {
			checkHeight(t, after, n)
			checkWidth(t, after, min(n, 1))
		}
	}
}

// Chains may go on over elements of others, and who takes the first one that is free may need too many.
func TestWidths(t *testing.T) {
	checkWidth(t, [][]int{nil, nil, {0, 1}, {2}, {2}}, 2)
	checkWidth(t, [][]int{nil, nil, {0, 1}, {0}}, 2)
	checkWidth(t, [][]int{nil, nil, {0}, {0, 1}}, 2)
	checkWidth(t, [][]int{{2, 3}, {2}, nil, nil}, 2)
	checkWidth(t, [][]int{nil, nil, nil, nil, {0, 1}, {0, 2}, {1, 3}, {0}}, 4)
	checkWidth(t, [][]int{nil, nil, nil, {0, 1, 2}, {0, 1, 2}, {3, 4}, {5}, {5}, {5}, {5}, {6, 7, 8, 9}, {10}}, 4)
	checkHeight(t, [][]int{nil, nil, nil, {0, 1, 2}, {0, 1, 2}, {3, 4}, {5}, {5}, {5}, {5}, {6, 7, 8, 9}, {10}}, 6)
	// all subsets of 3 elements
	checkWidth(t, [][]int{nil, {0}, {0}, {1, 2}, {0}, {1, 4}, {2, 4}, {3, 5, 6}}, 3)
	checkHeight(t, [][]int{nil, {0}, {0}, {1, 2}, {0}, {1, 4}, {2, 4}, {3, 5, 6}}, 4)
}

func TestSizes(t *testing.T) {
	for _, after := range slices.Concat(smallOrders(), randomOrders(9, 600, 8), largeOrders(10, 100)) {
		pairs := relationOf(after)
		checkHeight(t, after, pairs.largest(true))
		checkWidth(t, after, pairs.largest(false))
	}
}
