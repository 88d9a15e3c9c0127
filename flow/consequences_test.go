package flow_test

import (
	"math"
	"math/rand"
	"slices"
	"strconv"
	"testing"

	"majordomo/api"
	"majordomo/flow"
)

// P5.5: the consequences.

// cutOf returns the nodes of Cut, by bits.
func cutOf(t *testing.T, n api.Net, from, to int) uint64 {
	t.Helper()
	l, e := flow.Cut(n, from, to)
	if e != api.OK {
		t.Fatalf("Cut(%v, %d, %d): error %d", n, from, to, e)
	}
	return bitsOf(l)
}

// across returns the capacity of a set, given by bits.
func across(t *testing.T, n api.Net, set uint64) int {
	t.Helper()
	c, e := flow.Across(n, members(set))
	if e != api.OK {
		t.Fatalf("Across(%v, %v): error %d", n, members(set), e)
	}
	return c
}

// checkLeast checks that the cut is one, has the greatest value as its capacity, and that a set that contains s and not t has no less, and contains the cut if it has the same.
func checkLeast(t *testing.T, n api.Net, from, to int, sets []uint64) {
	t.Helper()
	value, cut := maxValue(t, n, from, to), cutOf(t, n, from, to)
	if cut>>from&1 == 0 || cut>>to&1 == 1 {
		t.Errorf("%v: the cut %v from %d to %d does not lie between", n, members(cut), from, to)
	}
	if c := across(t, n, cut); c != value {
		t.Errorf("%v: the cut %v from %d to %d has the capacity %d, the greatest value is %d", n, members(cut), from, to, c, value)
	}
	for _, set := range sets {
		c := across(t, n, set)
		if c < value || c == value && set&cut != cut {
			t.Errorf("%v: the set %v has the capacity %d, the cut from %d to %d is %v with %d", n, members(set), c, from, to, members(cut), value)
		}
	}
}

func TestNoSetHasLess(t *testing.T) {
	for _, n := range smallNets(8, 200) {
		for _, p := range pairs(n) {
			checkLeast(t, n, p[0], p[1], separate(n, p[0], p[1]))
		}
	}
}

func TestNoSetOfALargeNetHasLess(t *testing.T) {
	r := rand.New(rand.NewSource(9))
	for _, n := range largeNets() {
		for _, p := range ends(n) {
			cut := cutOf(t, n, p[0], p[1])
			var sets []uint64
			for node := range n.Nodes { // sets near the cut, and others
				sets = append(sets, cut^1<<node, cut&^(1<<node), r.Uint64(), cut|r.Uint64()&r.Uint64())
			}
			for i := range sets {
				sets[i] = (sets[i] | 1<<p[0]) &^ (1 << p[1]) & (math.MaxUint64 >> (64 - n.Nodes))
			}
			checkLeast(t, n, p[0], p[1], sets)
		}
	}
}

func TestTurnedRound(t *testing.T) {
	for _, n := range slices.Concat(smallNets(10, 300), largeNets()) {
		for _, p := range ends(n) {
			there, back := maxValue(t, n, p[0], p[1]), maxValue(t, turned(n), p[1], p[0])
			if there != back {
				t.Errorf("%v: from %d to %d %d, turned round %d", n, p[0], p[1], there, back)
			}
		}
	}
}

func TestGreaterCapacity(t *testing.T) {
	r := rand.New(rand.NewSource(11))
	for _, n := range slices.Concat(smallNets(12, 300), largeNets()) {
		for i, a := range n.Arcs {
			more := n
			more.Arcs = slices.Clone(n.Arcs)
			k := min([]int{1, 2, 1 + r.Intn(api.MaxCap)}[i%3], api.MaxCap-a.Cap)
			more.Arcs[i].Cap += k
			p := ends(n)[r.Intn(5)]
			was, is := maxValue(t, n, p[0], p[1]), maxValue(t, more, p[0], p[1])
			if is < was || is > was+k {
				t.Errorf("%v from %d to %d: %d more for the arc %d makes %d out of %d", n, p[0], p[1], k, i, is, was)
			}
		}
	}
}

// P5.1 to P5.4: the errors.

// misfit is a net that is not valid, and why it is not.
type misfit struct {
	why string
	net api.Net
}

func misfits() []misfit {
	l := []misfit{
		{"no nodes", api.Net{}},
		{"1 node", net("1:")},
		{"1 node and an arc", net("1: 0-0 1")},
		{"65 nodes", net("65:")},
		{"65 nodes and an arc", net("65: 0-64 1")},
		{"-1 nodes", net("-1:")},
		{"-2 nodes", net("-2: 0-1 1")},
		{"the least number of nodes", api.Net{Nodes: math.MinInt}},
		{"the greatest number of nodes", api.Net{Nodes: math.MaxInt, Arcs: net(example).Arcs}},
		{"129 arcs", api.Net{Nodes: 64, Arcs: slices.Repeat(net("2: 0-1 1").Arcs, 129)}},
		{"129 arcs of capacity 0", api.Net{Nodes: 2, Arcs: slices.Repeat(net("2: 0-1 0").Arcs, 129)}},
		{"very many arcs", api.Net{Nodes: 64, Arcs: slices.Repeat(net("2: 0-1 1").Arcs, 1<<20)}},
	}
	for _, a := range []struct {
		why string
		arc api.Arc
	}{
		{"from a node to itself", api.Arc{From: 0, To: 0, Cap: 1}},
		{"from the last node to itself", api.Arc{From: 3, To: 3}},
		{"from no node", api.Arc{From: 4, To: 0, Cap: 1}},
		{"to no node", api.Arc{From: 0, To: 4, Cap: 1}},
		{"from -1", api.Arc{From: -1, To: 0, Cap: 1}},
		{"to -1", api.Arc{From: 0, To: -1, Cap: 1}},
		{"from 64", api.Arc{From: 64, To: 0, Cap: 1}},
		{"to 64", api.Arc{From: 0, To: 64, Cap: 1}},
		{"from very far", api.Arc{From: math.MaxInt, To: 0, Cap: 1}},
		{"to very far", api.Arc{From: 0, To: math.MinInt, Cap: 1}},
		{"of capacity -1", api.Arc{From: 0, To: 1, Cap: -1}},
		{"of a capacity of 1 too much", api.Arc{From: 0, To: 1, Cap: api.MaxCap + 1}},
		{"of the least capacity of all", api.Arc{From: 0, To: 1, Cap: math.MinInt}},
		{"of the greatest capacity of all", api.Arc{From: 0, To: 1, Cap: math.MaxInt}},
	} {
		l = append(l,
			misfit{"an arc " + a.why, api.Net{Nodes: 4, Arcs: []api.Arc{a.arc}}},
			misfit{"a first arc " + a.why, api.Net{Nodes: 4, Arcs: append([]api.Arc{a.arc}, net(example).Arcs...)}},
			misfit{"a last arc " + a.why, api.Net{Nodes: 4, Arcs: append(net(example).Arcs, a.arc)}})
	}
	return l
}

// call is a call of a function that has two nodes; its number and its list are what it returns.
type call struct {
	name string
	with func(n api.Net, s, t int) (int, []int, api.Errno)
}

func calls() []call {
	check := func(flows ...int) func(n api.Net, s, t int) (int, []int, api.Errno) {
		return func(n api.Net, s, t int) (int, []int, api.Errno) {
			v, e := flow.Check(n, s, t, flows)
			return v, nil, e
		}
	}
	return []call{
		{"Check of what is a flow in the example", check(1, 1, 0, 1, 1)},
		{"Check of a list with a number below 0", check(-1, 1, 0, 1, 1)},
		{"Check of a list with a great number", check(1, 1, 0, 1, math.MaxInt)},
		{"Check of an unsteady list", check(1, 1, 0, 1, 0)},
		{"Check of an empty list", check()},
		{"Check of a short list", check(0)},
		{"Max", flow.Max},
		{"Cut", func(n api.Net, s, t int) (int, []int, api.Errno) {
			l, e := flow.Cut(n, s, t)
			return 0, l, e
		}},
		{"Critical", func(n api.Net, s, t int) (int, []int, api.Errno) {
			l, e := flow.Critical(n, s, t)
			return 0, l, e
		}},
	}
}

func checkNothing(t *testing.T, c call, why string, n api.Net, from, to int, want api.Errno) {
	t.Helper()
	number, l, e := c.with(n, from, to)
	if number != 0 || len(l) != 0 || e != want {
		t.Errorf("%s from %d to %d in a net (%s) = %d, %v, %d, want nothing, %d", c.name, from, to, why, number, l, e, want)
	}
}

// strangers are numbers that are no nodes of a net with so many nodes.
func strangers(nodes int) []int { return []int{-1, nodes, nodes + 1, -nodes, math.MinInt, math.MaxInt} }

func TestInvalidNets(t *testing.T) {
	for _, m := range misfits() {
		for _, c := range calls() {
			for _, p := range [][2]int{{0, 1}, {1, 0}, {0, 3}, {0, 0}, {0, 4}, {-1, 0}, {64, 65}, {math.MaxInt, math.MinInt}} {
				checkNothing(t, c, m.why, m.net, p[0], p[1], api.ErrArg)
			}
		}
		for _, set := range [][]int{nil, {}, {0}, {0, 1}, {1, 0}, {0, 0}, {-1}, {4}, {64}, {math.MaxInt}} {
			if got, e := flow.Across(m.net, set); got != 0 || e != api.ErrArg {
				t.Errorf("Across of %v in a net (%s) = %d, %d, want 0, ErrArg", set, m.why, got, e)
			}
		}
	}
}

func TestInvalidNodes(t *testing.T) {
	for _, s := range []string{"2:", example, "2: 0-1 1, 1-0 1", "64: 0-1 M, 63-0 1"} {
		n := net(s)
		for _, c := range calls() {
			for node := range n.Nodes {
				checkNothing(t, c, s, n, node, node, api.ErrRange)
				for _, stranger := range strangers(n.Nodes) {
					checkNothing(t, c, s, n, node, stranger, api.ErrRange)
					checkNothing(t, c, s, n, stranger, node, api.ErrRange)
				}
			}
			for _, a := range strangers(n.Nodes) {
				for _, b := range strangers(n.Nodes) {
					checkNothing(t, c, s, n, a, b, api.ErrRange)
				}
			}
		}
	}
}

// DOC.md, rules 3 to 5: arguments stay as they are, results share no memory, equal arguments give equal results.

// roomy returns a list with room behind its elements, filled with one of them.
func roomy[T any](l []T, filler T) []T {
	return append(slices.Clone(l), filler, filler)[:len(l)]
}

// unspoilt reports whether a list that roomy returned, and its room, are as they were.
func unspoilt[T comparable](roomed, l []T, filler T) bool {
	return slices.Equal(roomed, l) && slices.Equal(roomed[len(l):len(l)+2], []T{filler, filler})
}

// spoil changes all the memory of a list.
func spoil(l []int) {
	l = l[:cap(l)]
	for i := range l {
		l[i] -= 7777
	}
}

func checkMemory(t *testing.T, c call, n api.Net, from, to int) {
	t.Helper()
	name := c.name + " from " + strconv.Itoa(from) + " to " + strconv.Itoa(to)
	filler := api.Arc{From: 77, To: 77, Cap: 77}
	handed := api.Net{Nodes: n.Nodes, Arcs: roomy(n.Arcs, filler)}
	number, first, e := c.with(handed, from, to)
	again, second, againE := c.with(handed, from, to)
	want := slices.Clone(first)
	if number != again || !slices.Equal(second, want) || e != againE {
		t.Errorf("%s of %v differs when it is called again: %d, %v, %d and %d, %v, %d", name, n, number, want, e, again, second, againE)
	}
	spoil(first)
	if !slices.Equal(second, want) {
		t.Errorf("%s of %v: two results share memory", name, n)
	}
	if handed.Nodes != n.Nodes || !unspoilt(handed.Arcs, n.Arcs, filler) {
		t.Errorf("%s changed the net %v", name, n)
	}
}

func TestMemory(t *testing.T) {
	nets := append(slices.Concat(smallNets(13, 100), largeNets()), net(example), net("2:"), net("64:"))
	for _, n := range nets {
		for _, c := range calls() {
			for _, p := range append(ends(n), [2]int{0, 0}, [2]int{0, n.Nodes}) {
				checkMemory(t, c, n, p[0], p[1])
			}
		}
	}
	for _, m := range misfits() {
		for _, c := range calls() {
			checkMemory(t, c, m.net, 0, 1)
		}
	}
}

func TestMemoryOfLists(t *testing.T) {
	for _, l := range [][]int{{1, 1, 0, 1, 1}, {1, 1, 0, 1, 0}, {3, 2, 1, 2, 3}, {0, 1, 2}, {0, 3}, {2, 1}, {}, {-1, 9}} {
		n := net(example)
		handed := roomy(l, 77)
		for range 2 {
			flow.Check(n, 0, 3, handed)
			flow.Across(n, handed)
		}
		if !unspoilt(handed, l, 77) {
			t.Errorf("Check or Across changed the list %v", l)
		}
		flow.Valid(n)
		if !slices.Equal(n.Arcs, net(example).Arcs) {
			t.Errorf("Valid, Check or Across with %v changed the net", l)
		}
	}
}

func TestNilAndEmpty(t *testing.T) {
	for _, c := range calls() {
		for _, p := range [][2]int{{0, 1}, {2, 0}, {1, 1}, {0, 3}} {
			number, l, e := c.with(api.Net{Nodes: 3}, p[0], p[1])
			other, otherL, otherE := c.with(api.Net{Nodes: 3, Arcs: []api.Arc{}}, p[0], p[1])
			if number != other || !slices.Equal(l, otherL) || e != otherE {
				t.Errorf("%s: %d, %v, %d without arcs, and %d, %v, %d with an empty list", c.name, number, l, e, other, otherL, otherE)
			}
		}
	}
}
