package invariant_test

import "majordomo/api"

// brokenOf reads the chapter a second time: it asks of each kind with each two numbers whether this is broken, and needs no other layer.
func brokenOf(x scene) []api.Broken {
	var all []api.Broken
	for kind := api.BrokenCores; kind <= api.BrokenLoop; kind++ {
		for a := range 16 {
			for b := range 16 {
				if isBroken(x, kind, a, b) {
					all = append(all, broken(kind, a, b))
				}
			}
		}
	}
	return all
}

// isBroken reports whether an invariant is broken.
func isBroken(x scene, kind api.BrokenKind, a, b int) bool {
	if b > 0 && (kind <= api.BrokenLeast || kind >= api.BrokenBreaker) {
		return false
	}
	switch kind {
	case api.BrokenCores, api.BrokenPhase:
		return a < len(x.site.Hosts) && isHostBroken(x, kind, a)
	case api.BrokenLeast, api.BrokenSpread, api.BrokenFirmware:
		return a < len(x.wish.Services) && isServiceBroken(x, kind, a, b)
	case api.BrokenApart:
		return a < len(x.wish.Services) && isApartBroken(x, a, b)
	case api.BrokenNear:
		return a < len(x.wish.Services) && isNearBroken(x, a, b)
	case api.BrokenBreaker:
		return a < len(x.site.Breakers) && watts(x, func(r api.Rack) bool { return r.Breaker == a }) > x.site.Breakers[a].Limit
	case api.BrokenFeed:
		return a < len(x.site.Feeds) && watts(x, func(r api.Rack) bool { return x.site.Breakers[r.Breaker].Feed == a }) > x.site.Feeds[a].Limit
	}
	return a < len(x.site.Loops) && watts(x, func(r api.Rack) bool { return r.Loop == a }) > x.site.Loops[a].Carry
}

// isHostBroken reports whether the cores or the phase of a host are broken.
func isHostBroken(x scene, kind api.BrokenKind, host int) bool {
	free, isUsed := x.site.Hosts[host].Cores, false
	for _, r := range x.world.Replicas {
		if r.Host == host {
			free, isUsed = free-x.wish.Services[r.Service].Cores, true
		}
	}
	if kind == api.BrokenCores {
		return free < 0
	}
	phase := x.world.Hosts[host].Phase
	return isUsed && phase != api.HostServing && phase != api.HostDraining
}

// isServiceBroken reports whether the least number, the spread or the firmware of a service is broken.
func isServiceBroken(x scene, kind api.BrokenKind, service, b int) bool {
	asked := x.wish.Services[service]
	missing, free, isOld := asked.Least, asked.Spread, false
	for _, r := range x.world.Replicas {
		if r.Service != service {
			continue
		}
		missing--
		if isInDomain(x.site, asked.Domain, r.Host, b) {
			free--
		}
		isOld = isOld || r.Host == b && x.world.Hosts[b].Firmware < asked.Firmware
	}
	switch kind {
	case api.BrokenLeast:
		return missing > 0
	case api.BrokenSpread:
		return free < 0
	}
	return isOld
}

// isInDomain reports whether a host is in the domain n of a kind.
func isInDomain(s api.Site, d api.Domain, host, n int) bool {
	rack := s.Racks[s.Hosts[host].Rack]
	return d == api.DomainHost && host == n || d == api.DomainRack && s.Hosts[host].Rack == n || d == api.DomainRow && rack.Row == n ||
		d == api.DomainFeed && s.Breakers[rack.Breaker].Feed == n || d == api.DomainLoop && rack.Loop == n
}

// isApartBroken reports whether a service is to be apart from another one, and is not.
func isApartBroken(x scene, service, other int) bool {
	for _, apart := range x.wish.Services[service].Apart {
		for _, r := range x.world.Replicas {
			for _, q := range x.world.Replicas {
				if apart == other && r.Service == service && q.Service == other && r.Host == q.Host {
					return true
				}
			}
		}
	}
	return false
}

// isNearBroken reports whether a service is to be near to another one, and has a replica that is not.
func isNearBroken(x scene, service, other int) bool {
	for _, near := range x.wish.Services[service].Near {
		for _, r := range x.world.Replicas {
			if near.Service != other || r.Service != service {
				continue
			}
			isNear := false
			for _, q := range x.world.Replicas {
				isNear = isNear || q.Service == other && isWithin(x.site, r.Host, q.Host, near.Latency)
			}
			if !isNear {
				return true
			}
		}
	}
	return false
}

// isWithin reports whether the latency of two hosts is at most so much.
func isWithin(s api.Site, a, b, most int) bool {
	if a == b {
		return true
	}
	lengths := map[int]int{s.Racks[s.Hosts[a].Rack].Switch: 0} // of the ways that were found
	follow := func(from, to, latency int) {
		length, isReached := lengths[from]
		if was, isKnown := lengths[to]; isReached && (!isKnown || length+latency < was) {
			lengths[to] = length + latency
		}
	}
	for range s.Switches {
		for _, l := range s.Links {
			follow(l.A, l.B, l.Latency)
			follow(l.B, l.A, l.Latency)
		}
	}
	length, isReached := lengths[s.Racks[s.Hosts[b].Rack].Switch]
	return isReached && 1+length <= most
}

// watts returns what the hosts in some racks take.
func watts(x scene, isMeant func(r api.Rack) bool) int {
	sum := 0
	for i, h := range x.site.Hosts {
		if x.world.Hosts[i].Phase == api.HostBroken || !isMeant(x.site.Racks[h.Rack]) {
			continue
		}
		sum += h.Idle
		for _, r := range x.world.Replicas {
			if r.Host == i {
				sum += h.PerCore * x.wish.Services[r.Service].Cores
			}
		}
	}
	return sum
}
