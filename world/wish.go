package world

import (
	"slices"

	"majordomo/api"
)

// maxCores is how many cores a replica may have; package api has no constant for it.
const maxCores = 1000

// ValidWish reports whether a wish is valid.
func ValidWish(wish api.Wish) bool {
	many := len(wish.Services)
	if many > api.MaxServices {
		return false
	}
	replicas := 0
	for i, s := range wish.Services {
		if !keepsRanges(s) || !namesOthers(s, i, many) {
			return false
		}
		replicas += s.Replicas
	}
	return replicas <= api.MaxReplicas
}

// keepsRanges reports whether the numbers of a service are in their ranges.
func keepsRanges(s api.Service) bool {
	leastSpread, mostSpread := 1, api.MaxReplicas
	if s.Domain == api.DomainNone {
		leastSpread, mostSpread = 0, 0
	}
	isFar := func(n api.Near) bool { return !isFrom(0, api.MaxNumber, n.Latency) }
	return isFrom(1, maxCores, s.Cores) &&
		isFrom(0, api.MaxReplicas, s.Replicas) &&
		isFrom(0, s.Replicas, s.Least) &&
		isFrom(0, api.MaxNumber, s.Firmware) &&
		s.Domain <= api.DomainLoop &&
		isFrom(leastSpread, mostSpread, s.Spread) &&
		!slices.ContainsFunc(s.Near, isFar)
}

// namesOthers reports whether the lists of a service, the one with the number own of so many, name other services as they should.
func namesOthers(s api.Service, own, many int) bool {
	itself := func(service int) int { return service }
	ofNear := func(n api.Near) int { return n.Service }
	return areOthers(s.Apart, itself, own, many) && areOthers(s.Near, ofNear, own, many)
}

// areOthers reports whether the elements of a list name services of so many, but not the one with the number own, strictly ascending.
func areOthers[Element any](list []Element, named func(Element) int, own, many int) bool {
	last := -1
	for _, element := range list {
		service := named(element)
		if service <= last || service >= many || service == own {
			return false
		}
		last = service
	}
	return true
}

// isFrom reports whether a number is from least to most.
func isFrom(least, most, number int) bool { return least <= number && number <= most }

// isIndex reports whether a number is one of so many, counted from 0.
func isIndex(number, many int) bool { return 0 <= number && number < many }
