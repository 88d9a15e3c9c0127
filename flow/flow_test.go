package flow_test

import (
	"math"
	"math/rand"
	"slices"
	"testing"

	"majordomo/api"
	"majordomo/flow"
)

// P5.1: Valid and Check.

func TestValid(t *testing.T) {
	most := net("64: 0-63 0, 63-0 M")
	for len(most.Arcs) < api.MaxArcs {
		most.Arcs = append(most.Arcs, api.Arc{From: 63, To: 62, Cap: api.MaxCap})
	}
	for _, n := range []api.Net{{Nodes: 2}, {Nodes: 2, Arcs: []api.Arc{}}, {Nodes: 64}, net(example), most, net("2: 0-1 0"), net("2: 1-0 M"), net("2: 0-1 1, 1-0 1"), net("3: 0-1 1, 0-1 1, 0-1 2")} {
		if !flow.Valid(n) {
			t.Errorf("not valid: %v", n)
		}
	}
	for _, m := range misfits() {
		if flow.Valid(m.net) {
			t.Errorf("valid: %s", m.why)
		}
	}
}

func checkFlow(t *testing.T, n api.Net, from, to int, l []int, want int, wantE api.Errno) {
	t.Helper()
	if v, e := flow.Check(n, from, to, l); v != want || e != wantE {
		t.Errorf("Check(%v, %d, %d, %v) = %d, %d, want %d, %d", n, from, to, l, v, e, want, wantE)
	}
}

func TestCheck(t *testing.T) {
	circles := "4: 0-1 5, 1-0 5, 1-2 5, 2-1 5, 3-0 5, 2-3 0"
	for _, c := range []struct {
		net  string
		s, t int
		flow []int
		want int
	}{
		{example, 0, 3, []int{1, 1, 0, 1, 1}, 2},
		{example, 0, 3, []int{3, 2, 1, 2, 3}, 5},
		{"2:", 0, 1, nil, 0},
		{"2:", 1, 0, []int{}, 0},
		{"2: 0-1 M", 0, 1, []int{api.MaxCap}, api.MaxCap},
		{"2: 0-1 M, 0-1 M, 1-0 M", 0, 1, []int{api.MaxCap, api.MaxCap, 0}, 2 * api.MaxCap},
		{"2: 0-1 0", 0, 1, []int{0}, 0},
		{"2: 0-1 4, 1-0 9", 0, 1, []int{3, 7}, -4}, // more comes back than goes
		{"2: 0-1 4, 1-0 9", 1, 0, []int{3, 7}, 4},
		{"4: 0-1 4, 1-3 4, 3-0 4", 0, 3, []int{4, 4, 3}, 1},
		{"5: 0-1 4, 2-3 4, 3-4 4, 4-2 4", 0, 1, []int{2, 3, 3, 3}, 2}, // what goes round elsewhere is no matter
		{circles, 0, 3, []int{5, 5, 5, 5, 0, 0}, 0},
		{circles, 0, 3, []int{2, 2, 3, 3, 4, 0}, -4},
		{circles, 3, 0, []int{2, 2, 3, 3, 4, 0}, 4},
	} {
		checkFlow(t, net(c.net), c.s, c.t, c.flow, c.want, api.OK)
	}
}

func TestCheckOfNoFlow(t *testing.T) {
	for _, c := range []struct {
		net  string
		s, t int
		flow []int
	}{
		{"2: 0-1 4", 0, 1, nil},
		{"2: 0-1 4", 0, 1, []int{}},
		{"2: 0-1 4", 0, 1, []int{1, 0}},
		{"2:", 0, 1, []int{0}},
		{"3: 0-1 4, 1-2 4", 0, 2, []int{1}},
		{"3: 0-1 4, 1-2 4", 0, 2, []int{1, 1, 0}},
		{"2: 0-1 4", 0, 1, []int{-1}},
		{"2: 0-1 4", 0, 1, []int{5}},
		{"2: 0-1 0", 0, 1, []int{1}},
		{"2: 0-1 M", 0, 1, []int{api.MaxCap + 1}},
		{"2: 0-1 M", 0, 1, []int{math.MaxInt}},
		{"2: 0-1 M", 0, 1, []int{math.MinInt}},
		{"2: 0-1 4, 1-0 4", 0, 1, []int{5, 5}},
		{"2: 0-1 4, 1-0 4", 0, 1, []int{-1, -1}},
		{"3: 0-1 4, 1-2 4", 0, 2, []int{-1, -1}},
		{"3: 0-1 4, 1-2 4", 0, 2, []int{5, 5}},
		{"3: 0-1 4, 1-2 3", 0, 2, []int{4, 4}},
		{"3: 0-1 4, 1-2 4", 0, 2, []int{2, 1}},
		{"3: 0-1 4, 1-2 4", 0, 2, []int{1, 2}},
		{"3: 0-1 4, 1-2 4", 2, 0, []int{1, 2}},
		{"3: 0-1 4", 2, 1, []int{1}},
		{"3: 0-1 4", 0, 2, []int{1}},
		{"4: 0-1 4, 2-3 4", 0, 1, []int{1, 1}},
		{example, 0, 3, []int{1, 1, 0, 1, 0}},
		{example, 0, 3, []int{2, 0, 0, 1, 1}}, // what 1 gains, 2 loses
		{example, 3, 1, []int{3, 0, 3, 0, 3}}, // 0 loses
	} {
		checkFlow(t, net(c.net), c.s, c.t, c.flow, 0, api.ErrBroken)
	}
}

// lists yields all lists that have a number from -1 to 1 above its capacity for each arc.
func lists(arcs []api.Arc) func(yield func([]int) bool) {
	return func(yield func([]int) bool) {
		l := slices.Repeat([]int{-1}, len(arcs))
		for {
			if !yield(slices.Clone(l)) {
				return
			}
			i := 0
			for i < len(l) && l[i] > arcs[i].Cap {
				l[i] = -1
				i++
			}
			if i == len(l) {
				return
			}
			l[i]++
		}
	}
}

// tinyNets are nets with so few lists that all of them can be tried.
func tinyNets() []api.Net {
	r := rand.New(rand.NewSource(2))
	l := []api.Net{net("2: 0-1 2, 1-0 1"), net("3: 0-1 2, 1-2 2, 0-2 1"), net("4: 0-1 1, 0-2 1, 1-2 1, 1-3 1, 2-3 1")}
	for range 40 {
		l = append(l, randomNet(r, 2+r.Intn(3), 1+r.Intn(5), 2))
	}
	return l
}

func TestCheckOfAllLists(t *testing.T) {
	for _, n := range tinyNets() {
		for _, p := range pairs(n) {
			for l := range lists(n.Arcs) {
				if value, is := isFlow(n, p[0], p[1], l); is {
					checkFlow(t, n, p[0], p[1], l, value, api.OK)
				} else {
					checkFlow(t, n, p[0], p[1], l, 0, api.ErrBroken)
				}
			}
		}
	}
}

// P5.2: Max.

// checkMax checks that Max returns a flow that has a value, and the value.
func checkMax(t *testing.T, n api.Net, from, to, want int) {
	t.Helper()
	value, l, e := flow.Max(n, from, to)
	if value != want || e != api.OK {
		t.Errorf("Max(%v, %d, %d) = %d, %d, want %d, OK", n, from, to, value, e, want)
	}
	if v, is := isFlow(n, from, to, l); v != want || !is {
		t.Errorf("Max(%v, %d, %d): the list %v is a flow: %t, its value is %d, want %d", n, from, to, l, is, v, want)
	}
	if v, e := flow.Check(n, from, to, l); v != want || e != api.OK {
		t.Errorf("Max(%v, %d, %d): Check of %v = %d, %d, want %d, OK", n, from, to, l, v, e, want)
	}
}

// sample is a net, with the answers to the calls from s to t.
type sample struct {
	why, net      string
	s, t          int
	value         int
	cut, critical []int
}

func samples() []sample {
	return []sample{
		{"the example", example, 0, 3, 5, []int{0}, []int{0, 1, 2, 3, 4}},
		{"the example, backwards", example, 3, 0, 0, []int{3}, nil},
		{"2 nodes without arcs", "2:", 0, 1, 0, []int{0}, nil},
		{"2 nodes without arcs, backwards", "2:", 1, 0, 0, []int{1}, nil},
		{"64 nodes without arcs", "64:", 63, 0, 0, []int{63}, nil},
		{"64 nodes", "64: 63-7 5, 7-0 4", 63, 0, 4, []int{7, 63}, []int{0, 1}},
		{"one arc", "2: 0-1 7", 0, 1, 7, []int{0}, []int{0}},
		{"one arc, s greater than t", "2: 1-0 7", 1, 0, 7, []int{1}, []int{0}},
		{"one arc, the other way round", "2: 0-1 7", 1, 0, 0, []int{1}, nil},
		{"one arc of capacity 0", "2: 0-1 0", 0, 1, 0, []int{0}, nil},
		{"one arc, of the greatest capacity", "2: 0-1 M", 0, 1, api.MaxCap, []int{0}, []int{0}},
		{"several arcs between two nodes", "2: 0-1 3, 0-1 4, 0-1 0, 0-1 1", 0, 1, 8, []int{0}, []int{0, 1, 3}},
		{"several arcs between two nodes, and a narrow end", "3: 0-1 3, 0-1 4, 1-2 5", 0, 2, 5, []int{0, 1}, []int{0, 1, 2}},
		{"several arcs, each of which can be done without", "3: 0-1 3, 0-1 3, 0-1 3, 1-2 5", 0, 2, 5, []int{0, 1}, []int{3}},
		{"arcs against each other", "2: 0-1 3, 1-0 5", 0, 1, 3, []int{0}, []int{0}},
		{"arcs against each other in a row", "3: 0-1 3, 1-0 5, 1-2 2, 2-1 9", 0, 2, 2, []int{0, 1}, []int{0, 2}},
		{"arcs that end at s and begin at t", "3: 1-0 8, 2-1 8, 2-0 8, 0-1 5, 1-2 4", 0, 2, 4, []int{0, 1}, []int{3, 4}},
		{"only arcs that end at s and begin at t", "4: 1-0 8, 3-1 8, 3-0 8, 2-0 7", 0, 3, 0, []int{0}, nil},
		{"a way in a row", "5: 0-1 9, 1-2 7, 2-3 5, 3-4 6", 0, 4, 5, []int{0, 1, 2}, []int{0, 1, 2, 3}},
		{"several least cuts", "4: 0-1 3, 1-2 3, 2-3 3", 0, 3, 3, []int{0}, []int{0, 1, 2}},
		{"several least cuts, not at s", "5: 0-1 4, 1-2 3, 2-3 3, 3-4 3", 0, 4, 3, []int{0, 1}, []int{0, 1, 2, 3}},
		{"several least cuts, side by side", "4: 0-1 2, 0-2 3, 1-3 2, 2-3 3", 0, 3, 5, []int{0}, []int{0, 1, 2, 3}},
		{"two ways", "4: 0-1 4, 1-3 2, 0-2 1, 2-3 5", 0, 3, 3, []int{0, 1}, []int{0, 1, 2, 3}},
		{"an arc that is full but not needed", "4: 0-1 5, 1-2 5, 1-3 5, 2-3 5", 0, 3, 5, []int{0}, []int{0}},
		{"full arcs that are not needed, before a narrow end", "4: 0-1 2, 0-2 2, 1-2 2, 2-3 2", 0, 3, 2, []int{0, 1, 2}, []int{3}},
		{"an arc that is not full but needed", "4: 0-1 3, 0-2 2, 1-3 9, 2-3 9", 0, 3, 5, []int{0}, []int{0, 1, 2, 3}},
		{"arcs that lead nowhere", "6: 0-1 3, 1-5 3, 1-2 4, 2-3 4, 4-5 4, 3-2 1", 0, 5, 3, []int{0}, []int{0, 1}},
		{"a net in two parts", "6: 0-1 3, 1-2 3, 2-0 1, 3-4 3, 4-5 3", 0, 5, 0, []int{0, 1, 2}, nil},
		{"within one of two parts", "6: 0-1 3, 1-2 3, 2-0 1, 3-4 3, 4-5 2", 3, 5, 2, []int{3, 4}, []int{3, 4}},
		{"a part that flows round", "6: 0-5 2, 1-2 3, 2-3 3, 3-1 3", 0, 5, 2, []int{0}, []int{0}},
		{"a way through an arc of capacity 0", "4: 0-1 3, 1-2 0, 2-3 3", 0, 3, 0, []int{0, 1}, nil},
		{"a value of 0, and much that can be reached", "5: 0-1 3, 1-2 2, 2-3 1, 4-3 1", 0, 4, 0, []int{0, 1, 2, 3}, nil},
		{"the first way must be taken back", "4: 0-1 1, 1-2 1, 2-3 1, 0-2 1, 1-3 1", 0, 3, 2, []int{0}, []int{0, 2, 3, 4}},
		{"the short way must be taken back", "6: 0-1 1, 0-2 1, 1-4 1, 1-3 1, 2-4 1, 3-5 1, 4-5 1", 0, 5, 2, []int{0}, []int{0, 1, 3, 4, 5, 6}},
		{"the shortest way must be taken back in part", "8: 0-1 9, 1-2 9, 2-7 9, 0-3 9, 3-4 9, 4-2 9, 1-5 9, 5-6 9, 6-7 4", 0, 7, 13, []int{0, 1, 2, 3, 4, 5, 6}, []int{0, 2, 3, 4, 5, 6, 7, 8}},
		{"a cut that leaves nodes between", "6: 0-1 5, 1-2 1, 2-3 5, 3-4 1, 4-5 5", 0, 5, 1, []int{0, 1}, []int{0, 1, 2, 3, 4}},
		{"many arcs of the greatest capacity", "4: 0-1 M, 0-1 M, 0-2 M, 1-3 M, 2-3 M, 2-3 M, 1-2 M, 0-3 M", 0, 3, 4 * api.MaxCap, []int{0}, []int{0, 1, 2, 3, 4, 5, 6, 7}},
	}
}

func TestMax(t *testing.T) {
	for _, c := range samples() {
		checkMax(t, net(c.net), c.s, c.t, c.value)
	}
}

func TestMaxAgainstAllLists(t *testing.T) {
	for _, n := range tinyNets() {
		for _, p := range pairs(n) {
			most := 0
			for l := range lists(n.Arcs) {
				if value, is := isFlow(n, p[0], p[1], l); is {
					most = max(most, value)
				}
			}
			checkMax(t, n, p[0], p[1], most)
		}
	}
}

func TestMaxAgainstAllCuts(t *testing.T) {
	for _, n := range smallNets(3, 600) {
		for _, p := range pairs(n) {
			least, _ := leastCut(n, p[0], p[1])
			checkMax(t, n, p[0], p[1], least)
		}
	}
}

func TestMaxOfLargeNets(t *testing.T) {
	for _, n := range largeNets() {
		for _, p := range ends(n) {
			checkMax(t, n, p[0], p[1], greatestValue(n, p[0], p[1]))
		}
	}
}

// One unit at a time, or one way at a time, these would take very long.
func TestMaxOfHardNets(t *testing.T) {
	checkMax(t, diamonds(21), 0, 63, 2*api.MaxCap)
	checkMax(t, ladder(31, api.MaxCap), 0, 1, 2*api.MaxCap)
	checkMax(t, hopeless(), 0, 1, 1)
	if got, e := flow.Critical(hopeless(), 0, 1); len(got) != 12 || e != api.OK {
		t.Errorf("Critical of a hopeless net = %v, %d", got, e)
	}
}

// P5.3: Cut and Across.

func checkCut(t *testing.T, n api.Net, from, to int, want []int) {
	t.Helper()
	if got, e := flow.Cut(n, from, to); !slices.Equal(got, want) || e != api.OK {
		t.Errorf("Cut(%v, %d, %d) = %v, %d, want %v, OK", n, from, to, got, e, want)
	}
}

func TestCut(t *testing.T) {
	for _, c := range samples() {
		checkCut(t, net(c.net), c.s, c.t, c.cut)
	}
}

func TestCutAgainstAllCuts(t *testing.T) {
	for _, n := range smallNets(4, 600) {
		for _, p := range pairs(n) {
			_, common := leastCut(n, p[0], p[1])
			checkCut(t, n, p[0], p[1], common)
		}
	}
}

func TestCutIsWhatCanBeReached(t *testing.T) {
	for _, n := range slices.Concat(smallNets(5, 300), largeNets()) {
		for _, p := range ends(n) {
			_, l, _ := flow.Max(n, p[0], p[1])
			checkCut(t, n, p[0], p[1], reached(n, p[0], l))
		}
	}
}

// TestCutOfEachGreatestFlow checks that it does not matter which greatest flow is taken.
func TestCutOfEachGreatestFlow(t *testing.T) {
	for _, n := range tinyNets() {
		for _, p := range pairs(n) {
			most := maxValue(t, n, p[0], p[1])
			for l := range lists(n.Arcs) {
				if value, is := isFlow(n, p[0], p[1], l); is && value == most {
					checkCut(t, n, p[0], p[1], reached(n, p[0], l))
				}
			}
		}
	}
}

func TestAcross(t *testing.T) {
	all := slices.Collect(func(yield func(int) bool) {
		for node := 0; node < 64 && yield(node); node++ {
		}
	})
	full := "63: 0-62 M"
	for range api.MaxArcs - 1 {
		full += ", 0-62 M"
	}
	for _, c := range []struct {
		net   string
		set   []int
		want  int
		wantE api.Errno
	}{
		{example, []int{0, 1}, 9, api.OK},
		{example, []int{1}, 7, api.OK},
		{example, []int{3}, 0, api.OK},
		{example, []int{0, 3}, 5, api.OK},
		{example, []int{0, 1, 2}, 6, api.OK},
		{example, []int{0, 1, 2, 3}, 0, api.OK},
		{example, nil, 0, api.OK},
		{example, []int{}, 0, api.OK},
		{example, []int{1, 0}, 0, api.ErrRange},
		{example, []int{0, 0}, 0, api.ErrRange},
		{example, []int{0, 1, 1}, 0, api.ErrRange},
		{example, []int{0, 2, 1}, 0, api.ErrRange},
		{example, []int{3, 3}, 0, api.ErrRange},
		{example, []int{4}, 0, api.ErrRange},
		{example, []int{0, 4}, 0, api.ErrRange},
		{example, []int{-1}, 0, api.ErrRange},
		{example, []int{-1, 0}, 0, api.ErrRange},
		{example, []int{0, 1, 2, 3, 4}, 0, api.ErrRange},
		{example, []int{math.MaxInt}, 0, api.ErrRange},
		{example, []int{math.MinInt}, 0, api.ErrRange},
		{example, make([]int, 100), 0, api.ErrRange},
		{"2: 0-1 3, 1-0 5, 0-1 4", []int{0}, 7, api.OK},
		{"2: 0-1 3, 1-0 5, 0-1 4", []int{1}, 5, api.OK},
		{"2: 0-1 0", []int{0}, 0, api.OK},
		{"2:", []int{0, 1}, 0, api.OK},
		{"2:", []int{2}, 0, api.ErrRange},
		{"64: 63-0 9", []int{63}, 9, api.OK},
		{"64: 63-0 9", []int{64}, 0, api.ErrRange},
		{"64: 63-0 9", all, 0, api.OK},
		{"64: 63-0 9", all[1:], 9, api.OK},
		{full, []int{0}, api.MaxArcs * api.MaxCap, api.OK},
		{full, all[:62], api.MaxArcs * api.MaxCap, api.OK},
		{full, all, 0, api.ErrRange},
	} {
		if got, e := flow.Across(net(c.net), c.set); got != c.want || e != c.wantE {
			t.Errorf("Across(%s, %v) = %d, %d, want %d, %d", c.net, c.set, got, e, c.want, c.wantE)
		}
	}
}

func TestAcrossOfAllSets(t *testing.T) {
	for _, n := range smallNets(6, 300) {
		for set := range uint64(1) << n.Nodes {
			if got, e := flow.Across(n, members(set)); got != capacity(n, set) || e != api.OK {
				t.Errorf("Across(%v, %v) = %d, %d, want %d, OK", n, members(set), got, e, capacity(n, set))
			}
		}
	}
}

// TestAcrossOfAllShortLists tries all lists of at most 4 numbers from -1 to Nodes.
func TestAcrossOfAllShortLists(t *testing.T) {
	n := net(example)
	var try func(l []int)
	try = func(l []int) {
		want, wantE := 0, api.ErrRange
		ascending := slices.IsSorted(l) && len(slices.Compact(slices.Clone(l))) == len(l)
		if ascending && (len(l) == 0 || l[0] >= 0 && l[len(l)-1] < 4) {
			want, wantE = capacity(n, bitsOf(l)), api.OK
		}
		if got, e := flow.Across(n, l); got != want || e != wantE {
			t.Errorf("Across(%v) = %d, %d, want %d, %d", l, got, e, want, wantE)
		}
		for node := -1; node <= 4 && len(l) < 4; node++ {
			try(append(slices.Clone(l), node))
		}
	}
	try(nil)
}

// P5.4: Critical.

func checkCritical(t *testing.T, n api.Net, from, to int, want []int) {
	t.Helper()
	if got, e := flow.Critical(n, from, to); !slices.Equal(got, want) || e != api.OK {
		t.Errorf("Critical(%v, %d, %d) = %v, %d, want %v, OK", n, from, to, got, e, want)
	}
}

func TestCritical(t *testing.T) {
	for _, c := range samples() {
		checkCritical(t, net(c.net), c.s, c.t, c.critical)
	}
}

func TestCriticalAgainstAllCuts(t *testing.T) {
	for _, n := range smallNets(7, 300) {
		for _, p := range pairs(n) {
			with, _ := leastCut(n, p[0], p[1])
			var want []int
			for i := range n.Arcs {
				if least, _ := leastCut(lacking(n, i), p[0], p[1]); least < with {
					want = append(want, i)
				}
			}
			checkCritical(t, n, p[0], p[1], want)
		}
	}
}

func TestCriticalOfLargeNets(t *testing.T) {
	for _, n := range largeNets() {
		p := ends(n)[0]
		with := greatestValue(n, p[0], p[1])
		var want []int
		for i := range n.Arcs {
			if greatestValue(lacking(n, i), p[0], p[1]) < with {
				want = append(want, i)
			}
		}
		checkCritical(t, n, p[0], p[1], want)
	}
}

// TestCriticalOfAllArcs has as many critical arcs as there may be.
func TestCriticalOfAllArcs(t *testing.T) {
	n := api.Net{Nodes: 64}
	var want []int
	for i := range api.MaxArcs {
		n.Arcs = append(n.Arcs, api.Arc{From: i % 62, To: i%62 + 1, Cap: api.MaxCap})
		if i >= 124 {
			n.Arcs[i] = api.Arc{From: 62, To: 63, Cap: api.MaxCap / 2}
		}
		want = append(want, i)
	}
	checkMax(t, n, 0, 63, 2*api.MaxCap)
	checkCritical(t, n, 0, 63, want)
}
