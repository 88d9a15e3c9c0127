package invariant

import (
	"slices"

	"majordomo/api"
	"majordomo/cooling"
	"majordomo/network"
	"majordomo/power"
	"majordomo/site"
	"majordomo/world"
)

// scene is what invariants are about: a site, a wish and a world that are valid.
type scene struct {
	site  api.Site
	wish  api.Wish
	world api.World
}

// kind is a kind of invariants: find calls broken for each one that is broken, by A, then by B, ascending (B is 0 where there is nothing to say).
type kind struct {
	is   api.BrokenKind
	find func(x scene, broken func(a, b int))
}

// kinds returns all kinds in their order.
func kinds() []kind {
	return []kind{
		{api.BrokenCores, findCores},
		{api.BrokenPhase, findPhases},
		{api.BrokenLeast, findLeasts},
		{api.BrokenSpread, findSpreads},
		{api.BrokenApart, findAparts},
		{api.BrokenNear, findNears},
		{api.BrokenFirmware, findFirmwares},
		{api.BrokenBreaker, findBreakers},
		{api.BrokenFeed, findFeeds},
		{api.BrokenLoop, findLoops},
	}
}

// findCores finds the hosts with more cores in use than they have.
func findCores(x scene, broken func(a, b int)) {
	for host := range len(x.site.Hosts) {
		if world.Used(x.wish, x.world, host) > x.site.Hosts[host].Cores {
			broken(host, 0)
		}
	}
}

// findPhases finds the hosts that run replicas in a phase in which there should be none.
func findPhases(x scene, broken func(a, b int)) {
	for host := range len(x.site.Hosts) {
		isThere := func(r api.Replica) bool { return r.Host == host }
		switch x.world.Hosts[host].Phase {
		case api.HostEmpty, api.HostTesting, api.HostBroken:
			if slices.ContainsFunc(x.world.Replicas, isThere) {
				broken(host, 0)
			}
		}
	}
}

// findLeasts finds the services of which too few replicas run.
func findLeasts(x scene, broken func(a, b int)) {
	for i, service := range x.wish.Services {
		if world.Runs(x.world, i) < service.Least {
			broken(i, 0)
		}
	}
}

// findSpreads finds the services of which too many replicas run in one domain, and the domains.
func findSpreads(x scene, broken func(a, b int)) {
	for i, service := range x.wish.Services {
		if service.Domain == api.DomainNone {
			continue
		}
		runs := make([]int, site.Count(x.site, service.Domain))
		for _, host := range world.Where(x.world, i) {
			runs[site.DomainOf(x.site, service.Domain, host)]++
		}
		for domain, many := range runs {
			if many > service.Spread {
				broken(i, domain)
			}
		}
	}
}

// findAparts finds the services that share a host with another one from which they are to be apart.
func findAparts(x scene, broken func(a, b int)) {
	for i, service := range x.wish.Services {
		for _, other := range service.Apart {
			isShared := func(host int) bool { return world.Has(x.world, api.Replica{Service: other, Host: host}) }
			if slices.ContainsFunc(world.Where(x.world, i), isShared) {
				broken(i, other)
			}
		}
	}
}

// findNears finds the services with a replica that is too far from all replicas of another one.
func findNears(x scene, broken func(a, b int)) {
	for i, service := range x.wish.Services {
		for _, near := range service.Near {
			hasOther := func(host int) bool { return world.Has(x.world, api.Replica{Service: near.Service, Host: host}) }
			isFar := func(host int) bool {
				return !slices.ContainsFunc(network.Within(x.site, host, near.Latency), hasOther)
			}
			if slices.ContainsFunc(world.Where(x.world, i), isFar) {
				broken(i, near.Service)
			}
		}
	}
}

// findFirmwares finds the services that run on hosts whose firmware is too old for them, and the hosts.
func findFirmwares(x scene, broken func(a, b int)) {
	for i, service := range x.wish.Services {
		for _, host := range world.Where(x.world, i) {
			if x.world.Hosts[host].Firmware < service.Firmware {
				broken(i, host)
			}
		}
	}
}

// findBreakers finds the breakers with too great a load.
func findBreakers(x scene, broken func(a, b int)) {
	for i, b := range x.site.Breakers {
		if power.OfBreaker(x.site, x.wish, x.world, i) > b.Limit {
			broken(i, 0)
		}
	}
}

// findFeeds finds the feeds with too great a load.
func findFeeds(x scene, broken func(a, b int)) {
	for i, f := range x.site.Feeds {
		if power.OfFeed(x.site, x.wish, x.world, i) > f.Limit {
			broken(i, 0)
		}
	}
}

// findLoops finds the loops to which more heat comes than they carry away.
func findLoops(x scene, broken func(a, b int)) {
	for i, l := range x.site.Loops {
		if cooling.Heat(x.site, x.wish, x.world, i) > l.Carry {
			broken(i, 0)
		}
	}
}
