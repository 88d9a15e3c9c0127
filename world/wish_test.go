package world_test

import (
	"math/rand"
	"slices"
	"testing"

	"majordomo/api"
)

// P13.1: ValidWish.

func TestExamplesOfWishes(t *testing.T) {
	checkWish(t, "Spread 1 and DomainNone", api.Wish{Services: []api.Service{{Cores: 1, Spread: 1}}}, false)
	checkWish(t, "none", api.Wish{}, true)
}

func TestValidWishes(t *testing.T) {
	for name, wish := range goodWishes() {
		checkWish(t, name, wish, true)
	}
}

func TestInvalidWishes(t *testing.T) {
	for name, wish := range badWishes() {
		checkWish(t, name, wish, false)
	}
	checkWish(t, "a service of nothing", api.Wish{Services: make([]api.Service, 1)}, false)
}

func TestNumbersOfServices(t *testing.T) {
	for _, n := range []int{0, 1, 2, 7, 8, 9, 10, 16, 1000, 1 << 16} {
		checkWish(t, "services", api.Wish{Services: slices.Repeat(leastWish().Services, n)}, n <= 8)
	}
}

// Each number of each service may be all that its range allows, and nothing else.
func TestRangesOfNumbers(t *testing.T) {
	for name, wish := range goodWishes() {
		for _, n := range numbersOf(&wish) {
			was := *n.at
			for _, good := range []int{n.least, n.most, n.least + (n.most-n.least)/2} {
				*n.at = good
				checkWish(t, name+", "+n.name, wish, true)
			}
			for _, bad := range outside(n.least, n.most) {
				*n.at = bad
				checkWish(t, name+", "+n.name, wish, false)
			}
			*n.at = was
		}
	}
}

func TestSpreadsOfDomains(t *testing.T) {
	for d := range 256 {
		for _, spread := range append(outside(0, 24), 0, 1, 2, 23, 24) {
			want := d == 0 && spread == 0 || d >= 1 && d <= 5 && spread >= 1 && spread <= 24
			checkWish(t, "a spread", api.Wish{Services: []api.Service{{Cores: 1, Domain: api.Domain(d), Spread: spread}}}, want)
		}
	}
}

func TestLeastAndReplicas(t *testing.T) {
	for replicas := -2; replicas <= 27; replicas++ {
		for least := -2; least <= 28; least++ {
			want := replicas >= 0 && replicas <= 24 && least >= 0 && least <= replicas
			checkWish(t, "a service", api.Wish{Services: []api.Service{{Cores: 1, Replicas: replicas, Least: least}}}, want)
		}
	}
}

// All services together have at most 24 replicas, and no service makes up for others with a number below 0.
func TestSumsOfReplicas(t *testing.T) {
	for _, l := range [][]int{{24}, {0, 24}, {12, 12}, {23, 1}, {3, 3, 3, 3, 3, 3, 3, 3}, {0, 0, 0, 0, 0, 0, 0, 24}, {24, 1}, {1, 24}, {12, 13}, {8, 8, 9}, {24, 24},
		{4, 3, 3, 3, 3, 3, 3, 3}, {3, 3, 3, 3, 3, 3, 3, 4}, {24, 24, 24, 24, 24, 24, 24, 24}, {24, 1, -1}, {-1, 24, 1}} {
		wish, sum, negative := api.Wish{}, 0, false
		for _, replicas := range l {
			wish.Services = append(wish.Services, api.Service{Cores: 1, Replicas: replicas})
			sum += replicas
			negative = negative || replicas < 0
		}
		checkWish(t, "replicas", wish, sum <= 24 && !negative)
	}
}

func TestListsOfServices(t *testing.T) {
	const many = 4
	valid := 0
	for own := range many {
		for _, l := range shortLists([]int{-1, 0, 1, 2, 3, 4}, 4) {
			apart, near := api.Wish{Services: slices.Repeat(leastWish().Services, many)}, api.Wish{Services: slices.Repeat(leastWish().Services, many)}
			apart.Services[own].Apart = l
			for _, other := range l {
				near.Services[own].Near = append(near.Services[own].Near, api.Near{Service: other, Latency: 5})
			}
			want := isValidWish(apart)
			if want {
				valid++
			}
			checkWish(t, "apart", apart, want)
			checkWish(t, "near", near, want)
		}
	}
	if valid != many*8 {
		t.Errorf("%d lists are valid, want %d", valid, many*8)
	}
}

func TestListsThatNameFarNumbers(t *testing.T) {
	for _, n := range outside(0, 7) {
		for own := range 8 {
			wish := greatestWish()
			l := wish.Services[own].Apart
			l[0] = n
			checkWish(t, "apart", wish, false)
			l[0], l[6] = greatestWish().Services[own].Apart[0], n
			checkWish(t, "apart", wish, false)
			wish = greatestWish()
			wish.Services[own].Near[6].Service = n
			checkWish(t, "near", wish, false)
		}
	}
	long := leastWish()
	long.Services[0].Apart = make([]int, 1<<16)
	checkWish(t, "a long list", long, false)
}

// A service may be apart from another one that is not apart from it, and near one that it is apart from.
func TestListsThatDoNotMatchOthers(t *testing.T) {
	wish := exampleWish()
	wish.Services[0].Apart = []int{1}
	checkWish(t, "apart on one side", wish, true)
	wish.Services[0].Near = []api.Near{{Service: 1}}
	checkWish(t, "near and apart", wish, true)
}

func TestRandomWishes(t *testing.T) {
	r := rand.New(rand.NewSource(3))
	valid := 0
	for range 30000 {
		wish := randomWish(r)
		checkWish(t, "a random wish", wish, true)
		all := numbersOf(&wish)
		for range min(r.Intn(2), len(all)) {
			n := all[r.Intn(len(all))]
			*n.at = []int{n.least - 1, n.least, n.most, n.most + 1, n.least + r.Intn(5)}[r.Intn(5)]
		}
		if many := len(wish.Services); many > 0 {
			s := &wish.Services[r.Intn(many)]
			if len(s.Apart) > 0 && r.Intn(3) == 0 {
				s.Apart[r.Intn(len(s.Apart))] = r.Intn(many+2) - 1
			}
			if len(s.Near) > 0 && r.Intn(3) == 0 {
				s.Near[r.Intn(len(s.Near))].Service = r.Intn(many+2) - 1
			}
			if r.Intn(8) == 0 {
				s.Domain = api.Domain(r.Intn(8))
			}
		}
		want := isValidWish(wish)
		if want {
			valid++
		}
		checkWish(t, "a changed wish", wish, want)
	}
	if valid < 7500 || valid > 24000 {
		t.Errorf("%d of the changed wishes are valid", valid)
	}
}
