package flow_test

import (
	"math/rand"
	"slices"
	"strconv"
	"strings"
	"testing"

	"majordomo/api"
	"majordomo/flow"
)

// net returns the net of a text such as "4: 0-1 3, 0-2 2": the nodes, then the arcs with their capacities.
func net(s string) api.Net {
	nodes, arcs, _ := strings.Cut(s, ":")
	n := api.Net{Nodes: whole(nodes)}
	for arc := range strings.SplitSeq(arcs, ",") {
		if strings.TrimSpace(arc) == "" {
			continue
		}
		ends, capacity, _ := strings.Cut(strings.TrimSpace(arc), " ")
		from, to, _ := strings.Cut(ends, "-")
		n.Arcs = append(n.Arcs, api.Arc{From: whole(from), To: whole(to), Cap: whole(capacity)})
	}
	return n
}

// whole returns the number of a text; M is the greatest capacity.
func whole(s string) int {
	if s == "M" {
		return api.MaxCap
	}
	n, err := strconv.Atoi(s)
	if err != nil {
		panic(err)
	}
	return n
}

// example is the net of the chapter's examples.
const example = "4: 0-1 3, 0-2 2, 1-2 5, 1-3 2, 2-3 4"

// randomNet returns a net with so many nodes and arcs, and capacities of at most most.
func randomNet(r *rand.Rand, nodes, arcs, most int) api.Net {
	n := api.Net{Nodes: nodes}
	for range arcs {
		from := r.Intn(nodes)
		to := (from + 1 + r.Intn(nodes-1)) % nodes
		n.Arcs = append(n.Arcs, api.Arc{From: from, To: to, Cap: r.Intn(most + 1)})
	}
	return n
}

// smallNets are many nets with at most 6 nodes; some have capacities 0 and 1 only.
func smallNets(seed int64, many int) []api.Net {
	r := rand.New(rand.NewSource(seed))
	var l []api.Net
	for i := range many {
		nodes := 2 + r.Intn(5)
		l = append(l, randomNet(r, nodes, r.Intn(3*nodes), []int{1, 3, 9, api.MaxCap}[i%4]))
	}
	return l
}

// ladder returns a net of layers of two nodes, each with an arc to both of the next layer: 0 is before the layers, 1 behind them.
func ladder(layers, capacity int) api.Net {
	n := api.Net{Nodes: 2 + 2*layers}
	arc := func(from, to int) { n.Arcs = append(n.Arcs, api.Arc{From: from, To: to, Cap: capacity}) }
	arc(0, 2)
	arc(0, 3)
	for layer := 1; layer < layers; layer++ {
		a, b := 2*layer, 2*layer+1
		arc(a, a+2)
		arc(a, b+2)
		arc(b, a+2)
		arc(b, b+2)
	}
	arc(2*layers, 1)
	arc(2*layers+1, 1)
	return n
}

// diamonds returns a net of diamonds in a row; in each a short arc of capacity 1 joins its two ways, so that a search that follows it needs very many rounds.
func diamonds(many int) api.Net {
	n := api.Net{Nodes: 3*many + 1}
	for i := range many {
		s := 3 * i
		n.Arcs = append(n.Arcs, api.Arc{From: s, To: s + 1, Cap: api.MaxCap}, api.Arc{From: s + 1, To: s + 2, Cap: 1}, api.Arc{From: s + 2, To: s + 3, Cap: api.MaxCap},
			api.Arc{From: s, To: s + 2, Cap: api.MaxCap}, api.Arc{From: s + 1, To: s + 3, Cap: api.MaxCap})
	}
	return n
}

// hopeless returns a net with one long way, and very many shorter ones that do not come to 1.
func hopeless() api.Net {
	n := ladder(24, api.MaxCap)
	n.Arcs = n.Arcs[:len(n.Arcs)-2]
	before := 0
	for node := n.Nodes; node < n.Nodes+11; node++ {
		n.Arcs = append(n.Arcs, api.Arc{From: before, To: node, Cap: 1})
		before = node
	}
	n.Arcs = append(n.Arcs, api.Arc{From: before, To: 1, Cap: 1})
	n.Nodes += 11
	return n
}

// ends are some pairs of nodes of a net that are not the same.
func ends(n api.Net) [][2]int {
	last := n.Nodes - 1
	return [][2]int{{0, last}, {last, 0}, {0, 1}, {1, 0}, {last, last / 2}}
}

// largeNets are nets with up to 64 nodes and 128 arcs.
func largeNets() []api.Net {
	r := rand.New(rand.NewSource(1))
	l := []api.Net{ladder(31, api.MaxCap), ladder(30, 1), diamonds(21), diamonds(1)}
	for i := range 60 {
		l = append(l, randomNet(r, []int{64, 40, 20, 12, 8}[i%5], 128, []int{1, 10, api.MaxCap}[i%3]))
	}
	for i := range 20 { // arcs to near nodes only, so that ways are long
		n := api.Net{Nodes: 64}
		for range 128 {
			from := r.Intn(62)
			n.Arcs = append(n.Arcs, api.Arc{From: from, To: from + 1 + r.Intn(2), Cap: 1 + r.Intn([]int{5, api.MaxCap}[i%2])})
		}
		for node := range 63 {
			n.Arcs[node].From, n.Arcs[node].To = node, node+1
		}
		l = append(l, n)
	}
	return l
}

// turned returns a net with all its arcs turned round.
func turned(n api.Net) api.Net {
	n.Arcs = slices.Clone(n.Arcs)
	for i, a := range n.Arcs {
		n.Arcs[i].From, n.Arcs[i].To = a.To, a.From
	}
	return n
}

// lacking returns a net without one of its arcs.
func lacking(n api.Net, arc int) api.Net {
	n.Arcs = slices.Delete(slices.Clone(n.Arcs), arc, arc+1)
	return n
}

// pairs are all pairs of nodes of a net that are not the same.
func pairs(n api.Net) [][2]int {
	var l [][2]int
	for s := range n.Nodes {
		for t := range n.Nodes {
			if s != t {
				l = append(l, [2]int{s, t})
			}
		}
	}
	return l
}

// isFlow says from the chapter's words whether a list is a flow, and what its value is.
func isFlow(n api.Net, s, t int, l []int) (value int, is bool) {
	if len(l) != len(n.Arcs) {
		return 0, false
	}
	for node := range n.Nodes {
		begin, end := 0, 0
		for i, a := range n.Arcs {
			if l[i] < 0 || l[i] > a.Cap {
				return 0, false
			}
			if a.From == node {
				begin += l[i]
			}
			if a.To == node {
				end += l[i]
			}
		}
		if node == s {
			value = begin - end
		}
		if node != s && node != t && begin != end {
			return 0, false
		}
	}
	return value, true
}

// capacity returns what the arcs carry that begin in a set, given by bits, and end outside of it.
func capacity(n api.Net, set uint64) int {
	sum := 0
	for _, a := range n.Arcs {
		if set>>a.From&1 == 1 && set>>a.To&1 == 0 {
			sum += a.Cap
		}
	}
	return sum
}

// separate are all sets, by bits, that contain s and not t.
func separate(n api.Net, s, t int) []uint64 {
	var l []uint64
	for set := range uint64(1) << n.Nodes {
		if set>>s&1 == 1 && set>>t&1 == 0 {
			l = append(l, set)
		}
	}
	return l
}

// leastCut returns the least capacity of a set that contains s and not t, and the nodes that all sets of this capacity contain.
func leastCut(n api.Net, s, t int) (least int, common []int) {
	least = 1 << 40
	all := uint64(0)
	for _, set := range separate(n, s, t) {
		switch c := capacity(n, set); {
		case c < least:
			least, all = c, set
		case c == least:
			all &= set
		}
	}
	return least, members(all)
}

// members returns the nodes of a set, ascending.
func members(set uint64) []int {
	var l []int
	for node := range 64 {
		if set>>node&1 == 1 {
			l = append(l, node)
		}
	}
	return l
}

func bitsOf(l []int) uint64 {
	set := uint64(0)
	for _, node := range l {
		set |= 1 << node
	}
	return set
}

// reached says by repeating the chapter's words which nodes can be reached from s in what a flow leaves.
func reached(n api.Net, s int, l []int) []int {
	set := uint64(1) << s
	for range n.Nodes {
		for i, a := range n.Arcs {
			if set>>a.From&1 == 1 && l[i] < a.Cap {
				set |= 1 << a.To
			}
			if set>>a.To&1 == 1 && l[i] > 0 {
				set |= 1 << a.From
			}
		}
	}
	return members(set)
}

// greatestValue returns the greatest value of a flow, found in a second way: by preflows, which are pushed on and whose nodes are lifted.
func greatestValue(n api.Net, s, t int) int {
	room := make([][]int, n.Nodes)
	for node := range room {
		room[node] = make([]int, n.Nodes)
	}
	for _, a := range n.Arcs {
		room[a.From][a.To] += a.Cap
	}
	height, over := make([]int, n.Nodes), make([]int, n.Nodes)
	push := func(from, to, much int) {
		room[from][to] -= much
		room[to][from] += much
		over[from] -= much
		over[to] += much
	}
	height[s] = n.Nodes
	for to := range n.Nodes {
		push(s, to, room[s][to])
	}
	for {
		node := 0
		for node < n.Nodes && (node == s || node == t || over[node] == 0) {
			node++
		}
		if node == n.Nodes {
			return over[t]
		}
		lowest := 1 << 30
		for to := range n.Nodes {
			if room[node][to] > 0 && height[node] == height[to]+1 && over[node] > 0 {
				push(node, to, min(over[node], room[node][to]))
			}
			if room[node][to] > 0 {
				lowest = min(lowest, height[to])
			}
		}
		if over[node] > 0 {
			height[node] = lowest + 1
		}
	}
}

// maxValue returns the greatest value that Max returns.
func maxValue(t *testing.T, n api.Net, from, to int) int {
	t.Helper()
	value, _, e := flow.Max(n, from, to)
	if e != api.OK {
		t.Fatalf("Max(%v, %d, %d): error %d", n, from, to, e)
	}
	return value
}
