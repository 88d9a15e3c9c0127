package check

import (
	"slices"

	"majordomo/api"
)

// maxCores is how many cores a replica may have; package api has no constant for it.
const maxCores = 1000

// service is a service that is checked: its name, the places of all services by their names, the kinds of the items so far, and what they mean.
type service struct {
	name    string
	places  map[string]int
	seen    map[api.ClauseKind]bool
	meaning api.Service
}

func (s *service) check(items []api.Clause) error {
	return each(items, map[api.ClauseKind]checker{
		api.ClauseCores:    s.cores,
		api.ClauseReplicas: s.replicas,
		api.ClauseLeast:    s.least,
		api.ClauseSpread:   s.spread,
		api.ClauseApart:    s.apart,
		api.ClauseNear:     s.near,
		api.ClauseFirmware: s.firmware,
	})
}

func (s *service) cores(i api.Clause) error {
	s.meaning.Cores = i.A
	return s.once(i, 1, maxCores)
}

func (s *service) replicas(i api.Clause) error {
	s.meaning.Replicas = i.A
	return s.once(i, 0, api.MaxReplicas)
}

func (s *service) least(i api.Clause) error {
	s.meaning.Least = i.A
	return s.once(i, 0, api.MaxNumber)
}

func (s *service) spread(i api.Clause) error {
	s.meaning.Domain, s.meaning.Spread = i.Domain, i.A
	return s.once(i, 1, api.MaxReplicas)
}

func (s *service) firmware(i api.Clause) error {
	s.meaning.Firmware = i.A
	return s.once(i, 0, api.MaxNumber)
}

// once asks that an item is the first one of its kind, and that its number is from least to most.
func (s *service) once(i api.Clause, least, most int) error {
	again := s.seen[i.Kind]
	s.seen[i.Kind] = true
	return ask(i.At,
		rule{api.ErrDuplicate, again},
		rule{api.ErrRange, i.A < least || i.A > most})
}

func (s *service) apart(i api.Clause) error {
	m := &s.meaning
	for _, name := range i.Names {
		place, there := s.places[name]
		err := ask(i.At,
			rule{api.ErrNone, !there},
			rule{api.ErrArg, name == s.name},
			rule{api.ErrDuplicate, slices.Contains(m.Apart, place)})
		if err != nil {
			return err
		}
		m.Apart = append(m.Apart, place)
	}
	return nil
}

func (s *service) near(i api.Clause) error {
	m := &s.meaning
	place, there := s.places[i.Names[0]]
	again := slices.ContainsFunc(m.Near, func(n api.Near) bool { return n.Service == place })
	m.Near = append(m.Near, api.Near{Service: place, Latency: i.A})
	return ask(i.At,
		rule{api.ErrNone, !there},
		rule{api.ErrArg, i.Names[0] == s.name},
		rule{api.ErrDuplicate, again},
		rule{api.ErrRange, i.A > api.MaxNumber})
}
