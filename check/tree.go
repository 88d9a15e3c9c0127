package check

import (
	"cmp"
	"slices"

	"majordomo/api"
)

// maxWindows is how many windows an intent may have; package api has no constant for it.
const maxWindows = 16

// tree is a well-formed tree that is checked: the places of its services by their names, and what has been checked means so far.
type tree struct {
	site     api.Site
	places   map[string]int
	replicas int
	intent   api.Intent
}

// check goes through the names of the services first, as items may name services that stand behind them.
func (t *tree) check(l []api.Clause) error {
	for _, c := range l {
		if c.Kind != api.ClauseService {
			continue
		}
		if err := t.name(c); err != nil {
			return err
		}
	}
	return each(l, map[api.ClauseKind]checker{
		api.ClauseService: t.service,
		api.ClauseWindow:  t.window,
		api.ClauseApprove: t.approve,
		api.ClauseBlast:   t.blast,
		api.ClauseCap:     t.limit,
	})
}

func (t *tree) name(c api.Clause) error {
	name, place := c.Names[0], len(t.intent.Names)
	_, there := t.places[name]
	t.places[name] = place
	t.intent.Names = append(t.intent.Names, name)
	return ask(c.At,
		rule{api.ErrLimit, place >= api.MaxServices},
		rule{api.ErrDuplicate, there})
}

func (t *tree) service(c api.Clause) error {
	s := &service{name: c.Names[0], places: t.places, seen: map[api.ClauseKind]bool{}}
	if err := s.check(c.Items); err != nil {
		return err
	}
	m := s.meaning
	t.replicas += m.Replicas
	slices.Sort(m.Apart)
	slices.SortFunc(m.Near, func(a, b api.Near) int { return cmp.Compare(a.Service, b.Service) })
	t.intent.Wish.Services = append(t.intent.Wish.Services, m)
	return ask(c.At,
		rule{api.ErrNone, !s.seen[api.ClauseCores] || !s.seen[api.ClauseReplicas]},
		rule{api.ErrRange, m.Least > m.Replicas},
		rule{api.ErrLimit, t.replicas > api.MaxReplicas})
}

func (t *tree) window(c api.Clause) error {
	p := &t.intent.Policy
	w := api.Window{Domain: c.Domain, Index: c.Index, From: c.A, To: c.B}
	p.Windows = append(p.Windows, w)
	return ask(c.At,
		rule{api.ErrLimit, len(p.Windows) > maxWindows},
		rule{api.ErrNone, !t.has(w.Domain, w.Index)},
		rule{api.ErrRange, w.From >= w.To || w.To > api.MaxNumber})
}

func (t *tree) approve(c api.Clause) error {
	p := &t.intent.Policy
	a := api.Area{Domain: c.Domain, Index: c.Index}
	again := slices.Contains(p.Approvals, a)
	p.Approvals = append(p.Approvals, a)
	return ask(c.At,
		rule{api.ErrNone, !t.has(a.Domain, a.Index)},
		rule{api.ErrDuplicate, again})
}

func (t *tree) blast(c api.Clause) error {
	p := &t.intent.Policy
	again := p.Blast != 0 // what was kept is in its range, and so not 0
	p.Blast = c.A
	return ask(c.At,
		rule{api.ErrDuplicate, again},
		rule{api.ErrRange, c.A < 1 || c.A > api.MaxHosts})
}

func (t *tree) limit(c api.Clause) error {
	p := &t.intent.Policy
	again := slices.ContainsFunc(p.Caps, func(o api.Cap) bool { return o.Feed == c.Index })
	p.Caps = append(p.Caps, api.Cap{Feed: c.Index, Watts: c.A})
	if !t.has(api.DomainFeed, c.Index) {
		return &fault{at: c.At, errno: api.ErrNone}
	}
	return ask(c.At,
		rule{api.ErrDuplicate, again},
		rule{api.ErrRange, c.A > t.site.Feeds[c.Index].Limit})
}

// has reports whether there is such an area in the site.
func (t *tree) has(d api.Domain, index int) bool {
	switch d {
	case api.DomainHost:
		return isPlace(index, len(t.site.Hosts))
	case api.DomainRack:
		return isPlace(index, len(t.site.Racks))
	case api.DomainRow:
		return slices.ContainsFunc(t.site.Racks, func(r api.Rack) bool { return r.Row == index })
	case api.DomainFeed:
		return isPlace(index, len(t.site.Feeds))
	case api.DomainLoop:
		return isPlace(index, len(t.site.Loops))
	}
	return false
}
