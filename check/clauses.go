package check

import (
	"majordomo/api"
	"majordomo/syntax"
)

// Clauses returns a tree for an intent, or ErrArg if there is none that is well formed.
func Clauses(i api.Intent) ([]api.Clause, api.Errno) {
	services := i.Wish.Services
	if len(i.Names) != len(services) {
		return nil, api.ErrArg
	}
	var l []api.Clause
	for place, s := range services {
		if !namesServices(s, len(services)) {
			return nil, api.ErrArg
		}
		l = append(l, api.Clause{Kind: api.ClauseService, Names: []string{i.Names[place]}, Items: items(s, i.Names)})
	}
	l = append(l, policy(i.Policy)...)
	if !syntax.Formed(l) {
		return nil, api.ErrArg
	}
	return l, api.OK
}

// namesServices reports whether all places in Apart and Near are those of services.
func namesServices(s api.Service, services int) bool {
	for _, place := range s.Apart {
		if !isPlace(place, services) {
			return false
		}
	}
	for _, n := range s.Near {
		if !isPlace(n.Service, services) {
			return false
		}
	}
	return true
}

// items returns the items of a service; all places in Apart and Near have names.
func items(s api.Service, names []string) []api.Clause {
	l := []api.Clause{
		{Kind: api.ClauseCores, A: s.Cores},
		{Kind: api.ClauseReplicas, A: s.Replicas},
	}
	if s.Least != 0 {
		l = append(l, api.Clause{Kind: api.ClauseLeast, A: s.Least})
	}
	if s.Domain != api.DomainNone {
		l = append(l, api.Clause{Kind: api.ClauseSpread, A: s.Spread, Domain: s.Domain})
	}
	if len(s.Apart) > 0 {
		apart := api.Clause{Kind: api.ClauseApart}
		for _, place := range s.Apart {
			apart.Names = append(apart.Names, names[place])
		}
		l = append(l, apart)
	}
	for _, n := range s.Near {
		l = append(l, api.Clause{Kind: api.ClauseNear, Names: []string{names[n.Service]}, A: n.Latency})
	}
	if s.Firmware != 0 {
		l = append(l, api.Clause{Kind: api.ClauseFirmware, A: s.Firmware})
	}
	return l
}

// policy returns the clauses of a policy.
func policy(p api.Policy) []api.Clause {
	var l []api.Clause
	for _, w := range p.Windows {
		l = append(l, api.Clause{Kind: api.ClauseWindow, Domain: w.Domain, Index: w.Index, A: w.From, B: w.To})
	}
	for _, a := range p.Approvals {
		l = append(l, api.Clause{Kind: api.ClauseApprove, Domain: a.Domain, Index: a.Index})
	}
	if p.Blast != 0 {
		l = append(l, api.Clause{Kind: api.ClauseBlast, A: p.Blast})
	}
	for _, c := range p.Caps {
		l = append(l, api.Clause{Kind: api.ClauseCap, Index: c.Feed, A: c.Watts})
	}
	return l
}
