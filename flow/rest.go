package flow

import (
	"iter"
	"slices"

	"majordomo/api"
)

// nowhere is the distance of a node that cannot be reached.
const nowhere = -1

// rest is what a flow leaves of a net. Each arc i is two moves: 2*i goes along it, and has room for what it can still carry; 2*i+1 goes back, and has room for what can be taken back from it.
type rest struct {
	ends  []int   // by move: the node where it ends
	room  []int   // by move
	moves [][]int // by node: the moves that begin there
}

// whole returns what is left of a net while nothing flows.
func whole(n api.Net) rest {
	r := rest{moves: make([][]int, n.Nodes)}
	for i, a := range n.Arcs {
		r.ends = append(r.ends, a.To, a.From)
		r.room = append(r.room, a.Cap, 0)
		r.moves[a.From] = append(r.moves[a.From], 2*i)
		r.moves[a.To] = append(r.moves[a.To], 2*i+1)
	}
	return r
}

// greatest returns the greatest value of a flow, and what such a flow leaves.
func greatest(n api.Net, s, t int) (int, rest) {
	value, r := 0, whole(n)
	for {
		sent := r.send(s, t)
		if sent == 0 {
			return value, r
		}
		value += sent
	}
}

// carried returns what an arc carries.
func (r rest) carried(arc int) int { return r.room[2*arc+1] }

// leaving yields the moves that begin at a node and have room.
func (r rest) leaving(node int) iter.Seq[int] {
	return func(yield func(int) bool) {
		for _, move := range r.moves[node] {
			if r.room[move] > 0 && !yield(move) {
				return
			}
		}
	}
}

// distances returns for each node how many moves it is away from s.
func (r rest) distances(s int) []int {
	far := slices.Repeat([]int{nowhere}, len(r.moves))
	far[s] = 0
	queue := []int{s}
	for len(queue) > 0 {
		node := queue[0]
		queue = queue[1:]
		for move := range r.leaving(node) {
			if to := r.ends[move]; far[to] == nowhere {
				far[to] = far[node] + 1
				queue = append(queue, to)
			}
		}
	}
	return far
}

// send lets more flow from s to t, by shortest ways until none is left, and returns how much more. Ways of that length do not come back, so that send is called once for each length at most, however great the capacities are.
func (r rest) send(s, t int) int {
	far := r.distances(s)
	var onward func(node, most int) int
	onward = func(node, most int) int {
		if node == t {
			return most
		}
		left := most
	moves:
		for move := range r.leaving(node) {
			to := r.ends[move]
			switch {
			case left == 0:
				break moves
			case far[to] == far[node]+1:
				sent := onward(to, min(left, r.room[move]))
				r.room[move] -= sent
				r.room[move^1] += sent
				left -= sent
			}
		}
		if left > 0 {
			far[node] = nowhere // nothing more goes on from here
		}
		return most - left
	}
	return onward(s, api.MaxArcs*api.MaxCap)
}
