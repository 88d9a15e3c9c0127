package power

import (
	"majordomo/api"
	"majordomo/flow"
	"majordomo/world"
)

// The nodes of the net that are there for every site; package api has no constants for them.
const (
	source = iota
	sink
	firstFeed
)

// Net returns the power net.
func Net(s api.Site, wish api.Wish, w api.World) api.Net {
	if !world.Valid(s, wish, w) {
		return api.Net{}
	}
	firstBreaker := firstFeed + len(s.Feeds)
	firstRack := firstBreaker + len(s.Breakers)
	n := api.Net{Nodes: firstRack + len(s.Racks)}
	for i, f := range s.Feeds {
		n = with(n, api.Arc{From: source, To: firstFeed + i, Cap: f.Limit})
	}
	for i, b := range s.Breakers {
		n = with(n, api.Arc{From: firstFeed + b.Feed, To: firstBreaker + i, Cap: b.Limit})
	}
	var out []api.Arc // they come after all arcs into racks
	for i, r := range s.Racks {
		load := OfRack(s, wish, w, i)
		n = with(n, api.Arc{From: firstBreaker + r.Breaker, To: firstRack + i, Cap: load})
		out = append(out, api.Arc{From: firstRack + i, To: sink, Cap: load})
	}
	return with(n, out...)
}

// Carried returns what the net carries.
func Carried(s api.Site, wish api.Wish, w api.World) int {
	value, _, _ := flow.Max(Net(s, wish, w), source, sink) // 0 with the zero net, which is not valid
	return value
}

// with returns a net with further arcs.
func with(n api.Net, arcs ...api.Arc) api.Net {
	n.Arcs = append(n.Arcs, arcs...)
	return n
}
