package network_test

import (
	"math"
	"math/bits"
	"slices"
	"testing"

	"majordomo/api"
	"majordomo/site"
)

// P16.1: Distance, Latency.

func TestExamplesOfDistance(t *testing.T) {
	for a, row := range [][]int{{0, 4, 5}, {4, 0, 1}, {5, 1, 0}} {
		for b, want := range row {
			checkDistance(t, example(), a, b, want)
		}
	}
	checkDistance(t, example(), 0, 3, -1)
}

func TestExamplesOfLatency(t *testing.T) {
	for a, row := range [][]int{{0, 5, 6}, {5, 0, 2}, {6, 2, 0}} {
		for b, want := range row {
			checkLatency(t, example(), a, b, want)
		}
	}
}

// Of the links between two switches the quickest one counts, wherever it stands and whichever end is its A.
func TestLeastLinkCounts(t *testing.T) {
	links := []api.Link{{A: 0, B: 1, Latency: 9}, {A: 1, B: 0, Latency: 3}, {A: 0, B: 1, Latency: 4}, {A: 1, B: 0, Latency: 3}}
	for i := range links {
		s := linked(2, slices.Concat(links[i:], links[:i])...)
		checkDistance(t, s, 0, 1, 3)
		checkDistance(t, s, 1, 0, 3)
		checkLatency(t, s, 0, 1, 4)
		checkWay(t, s, 0, 1, 0, 1)
		checkWay(t, s, 1, 0, 1, 0)
	}
}

// Many quick links can be shorter than one slow link.
func TestDetours(t *testing.T) {
	for direct := 1; direct <= 9; direct++ {
		s := chain(1, 0, 1, 2, 3, 4, 5, 6, 7)
		s.Links = append(s.Links, api.Link{A: 7, B: 0, Latency: direct})
		checkDistance(t, s, 0, 7, min(direct, 7))
		checkDistance(t, s, 7, 0, min(direct, 7))
		checkLatency(t, s, 0, 7, 1+min(direct, 7))
		checkDistance(t, s, 1, 6, min(direct+2, 5))
	}
}

func TestGreatestDistance(t *testing.T) {
	for _, s := range []api.Site{chain(api.MaxNumber, 3, 1, 4, 0, 5, 7, 2, 6), crowded()} {
		checkDistance(t, s, 3, 6, 7000000)
		checkDistance(t, s, 6, 3, 7000000)
		checkDistance(t, s, 1, 2, 5000000)
		checkLatency(t, s, 3, 6, 7000001)
		checkWay(t, s, 3, 6, 3, 1, 4, 0, 5, 7, 2, 6)
		checkWay(t, s, 6, 3, 6, 2, 7, 5, 0, 4, 1, 3)
	}
}

func TestSwitchesApart(t *testing.T) {
	for a := range 8 {
		for b := range 8 {
			want := -1
			if a == b {
				want = 0
			}
			checkDistance(t, linked(8), a, b, want)
			checkLatency(t, linked(8), a, b, want)
		}
	}
	for _, x := range [][3]int{{0, 4, 5}, {4, 3, 2}, {1, 2, 1}, {0, 1, -1}, {2, 3, -1}, {5, 0, -1}, {4, 5, -1}, {5, 5, 0}} {
		checkDistance(t, wide(), x[0], x[1], x[2])
		checkDistance(t, wide(), x[1], x[0], x[2])
	}
}

// Hosts in one rack, and hosts at one switch, are 1 from each other.
func TestLatenciesOfWideSite(t *testing.T) {
	for a, row := range [][]int{
		{0, 6, -1, 1, 1, -1, 6, -1},
		{6, 0, -1, 6, 6, -1, 1, -1},
		{-1, -1, 0, -1, -1, -1, -1, 1},
		{1, 6, -1, 0, 1, -1, 6, -1},
		{1, 6, -1, 1, 0, -1, 6, -1},
		{-1, -1, -1, -1, -1, 0, -1, -1},
		{6, 1, -1, 6, 6, -1, 0, -1},
		{-1, -1, 1, -1, -1, -1, -1, 0},
	} {
		for b, want := range row {
			checkLatency(t, wide(), a, b, want)
		}
	}
}

// P16.2: Way.

func TestExamplesOfWay(t *testing.T) {
	checkWay(t, example(), 0, 2, 0, 1, 2)
	checkWay(t, example(), 2, 0, 2, 0)
	checkWay(t, example(), 1, 1, 1)
	checkWay(t, example(), 2, 1, 2, 1)
	checkWay(t, example(), 0, 3)
}

// Of ways of one length the first one counts, whether it has more or less switches than others.
func TestFirstOfShortestWays(t *testing.T) {
	s := chain(1, 0, 1, 2, 3, 4, 5, 6, 7)
	s.Links = append(s.Links, api.Link{A: 7, B: 0, Latency: 7})
	checkWay(t, s, 0, 7, 0, 1, 2, 3, 4, 5, 6, 7)
	checkWay(t, s, 7, 0, 7, 0)
	s.Links[7].Latency = 6
	checkWay(t, s, 0, 7, 0, 7)
	s.Links[7].Latency = 8
	checkWay(t, s, 7, 0, 7, 6, 5, 4, 3, 2, 1, 0)
}

// The first switch that is linked, or nearest, is not taken if it is on no shortest way.
func TestNearSwitchesOnLongerWays(t *testing.T) {
	s := linked(4, api.Link{A: 0, B: 1, Latency: 1}, api.Link{A: 1, B: 3, Latency: 5}, api.Link{A: 0, B: 2, Latency: 2}, api.Link{A: 2, B: 3, Latency: 2})
	checkWay(t, s, 0, 3, 0, 2, 3)
	checkWay(t, s, 3, 0, 3, 2, 0)
	checkWay(t, s, 1, 2, 1, 0, 2)
	s.Links[1].Latency = 3
	checkWay(t, s, 0, 3, 0, 1, 3)
	checkWay(t, s, 3, 0, 3, 1, 0)
}

// Here the first way is not the one that goes back from its end over the first switches.
func TestFirstSwitchDecides(t *testing.T) {
	s := linked(6, api.Link{A: 0, B: 1, Latency: 1}, api.Link{A: 1, B: 4, Latency: 1}, api.Link{A: 4, B: 5, Latency: 1}, api.Link{A: 0, B: 2, Latency: 1}, api.Link{A: 2, B: 3, Latency: 1}, api.Link{A: 3, B: 5, Latency: 1})
	checkWay(t, s, 0, 5, 0, 1, 4, 5)
	checkWay(t, s, 5, 0, 5, 3, 2, 0)
}

func TestWaysOfCube(t *testing.T) {
	s := cube()
	for a := range 8 {
		for b := range 8 {
			checkDistance(t, s, a, b, bits.OnesCount(uint(a^b)))
		}
	}
	checkWay(t, s, 0, 7, 0, 1, 3, 7)
	checkWay(t, s, 7, 0, 7, 3, 1, 0)
	checkWay(t, s, 5, 2, 5, 1, 0, 2)
	checkWay(t, s, 2, 5, 2, 0, 1, 5)
	checkWay(t, s, 6, 1, 6, 2, 0, 1)
	checkWay(t, s, 4, 2, 4, 0, 2)
	checkWay(t, s, 1, 7, 1, 3, 7)
}

func TestNoWay(t *testing.T) {
	for a := range 8 {
		for b := range 8 {
			if a == b {
				checkWay(t, linked(8), a, b, a)
			} else {
				checkWay(t, linked(8), a, b)
			}
		}
	}
	checkWay(t, wide(), 0, 4, 0, 3, 4)
	checkWay(t, wide(), 2, 1, 2, 1)
	checkWay(t, wide(), 0, 1)
	checkWay(t, wide(), 2, 3)
	checkWay(t, wide(), 5, 0)
	checkWay(t, wide(), 5, 5, 5)
}

// P16.3: Within.

func TestExamplesOfWithin(t *testing.T) {
	checkWithin(t, example(), 1, 2, 1, 2)
	checkWithin(t, example(), 1, -1)
	checkWithin(t, example(), 1, 0, 1)
	checkWithin(t, example(), 1, 1, 1)
	checkWithin(t, example(), 1, 4, 1, 2)
	checkWithin(t, example(), 1, 5, 0, 1, 2)
	checkWithin(t, example(), 0, 5, 0, 1)
	checkWithin(t, example(), 2, 6, 0, 1, 2)
}

// A host that cannot be reached is within nothing, however much it is, and -1 is no latency.
func TestWithinOfWideSite(t *testing.T) {
	for _, x := range []struct {
		a, most int
		want    []int
	}{
		{3, 0, []int{3}}, {3, 1, []int{0, 3, 4}}, {3, 5, []int{0, 3, 4}}, {3, 6, []int{0, 1, 3, 4, 6}}, {3, math.MaxInt, []int{0, 1, 3, 4, 6}},
		{6, 0, []int{6}}, {6, 1, []int{1, 6}}, {6, api.MaxNumber, []int{0, 1, 3, 4, 6}},
		{7, 1, []int{2, 7}}, {2, 100, []int{2, 7}},
		{5, 0, []int{5}}, {5, math.MaxInt, []int{5}},
		{3, -1, nil}, {5, -1, nil}, {3, -2, nil}, {0, math.MinInt, nil},
	} {
		checkWithin(t, wide(), x.a, x.most, x.want...)
	}
}

func TestWithinOfCrowdedSite(t *testing.T) {
	checkWithin(t, crowded(), 11, 0, 11)
	checkWithin(t, crowded(), 11, 1, 3, 11)
	checkWithin(t, crowded(), 11, 1000000, 3, 11)
	checkWithin(t, crowded(), 11, 1000001, 1, 3, 9, 11)
	checkWithin(t, crowded(), 11, 7000000, 0, 1, 2, 3, 4, 5, 7, 8, 9, 10, 11, 12, 13, 15)
	checkWithin(t, crowded(), 11, 7000001, 0, 1, 2, 3, 4, 5, 6, 7, 8, 9, 10, 11, 12, 13, 14, 15)
}

func TestLeastSite(t *testing.T) {
	s := linked(1)
	checkDistance(t, s, 0, 0, 0)
	checkLatency(t, s, 0, 0, 0)
	checkWay(t, s, 0, 0, 0)
	checkWithin(t, s, 0, 0, 0)
	checkWithin(t, s, 0, math.MaxInt, 0)
	checkWithin(t, s, 0, -1)
	s.Hosts = append(s.Hosts, api.Host{Cores: 1})
	checkLatency(t, s, 0, 1, 1)
	checkLatency(t, s, 1, 0, 1)
	checkWithin(t, s, 1, 0, 1)
	checkWithin(t, s, 1, 1, 0, 1)
}

// P16.1 to P16.3: all ways of many sites.

func TestDistancesAndWaysOfManySites(t *testing.T) {
	for _, s := range someSites(1, 1000) {
		if !site.Valid(s) {
			t.Fatalf("the site %v is not valid", s)
		}
		for a := range s.Switches {
			for b, want := range pathsFrom(s, a) {
				checkDistance(t, s, a, b, want.length)
				checkWay(t, s, a, b, want.way...)
			}
		}
	}
}

func TestLatenciesOfManySites(t *testing.T) {
	for _, s := range someSites(2, 300) {
		for a := range s.Hosts {
			all := latenciesFrom(s, a)
			for b, want := range all {
				checkLatency(t, s, a, b, want)
			}
			for _, most := range append(all, -2, 0, 1, 2, 3, 5, 8, 13, 30, 7000001, math.MaxInt, math.MinInt) {
				var want []int
				for host, latency := range all {
					if latency >= 0 && latency <= most {
						want = append(want, host)
					}
				}
				checkWithin(t, s, a, most, want...)
			}
		}
	}
}

// P16.1 to P16.3: numbers that name nothing, and sites that are not valid.

func TestSwitchesThatAreNotThere(t *testing.T) {
	for _, s := range someSites(3, 30) {
		for _, stranger := range strangers(s.Switches) {
			checkNoSwitches(t, s, stranger, stranger)
			for a := range s.Switches {
				checkNoSwitches(t, s, a, stranger)
				checkNoSwitches(t, s, stranger, a)
			}
			for _, other := range strangers(s.Switches) {
				checkNoSwitches(t, s, stranger, other)
			}
		}
	}
}

func TestHostsThatAreNotThere(t *testing.T) {
	for _, s := range someSites(4, 30) {
		for _, stranger := range strangers(len(s.Hosts)) {
			checkLatency(t, s, stranger, stranger, -1)
			for a := range s.Hosts {
				checkLatency(t, s, a, stranger, -1)
				checkLatency(t, s, stranger, a, -1)
			}
			for _, other := range strangers(len(s.Hosts)) {
				checkLatency(t, s, stranger, other, -1)
			}
			for _, most := range []int{-1, 0, 1, api.MaxNumber, math.MaxInt, math.MinInt} {
				checkWithin(t, s, stranger, most)
			}
		}
	}
}

// Switches are counted by Switches, and hosts by Hosts, not by each other.
func TestSwitchesAndHostsAreCountedApart(t *testing.T) {
	s := chain(2, 0, 1, 2, 3, 4)
	s.Racks, s.Hosts = s.Racks[3:4], []api.Host{{Cores: 1}, {Cores: 1}}
	checkDistance(t, s, 0, 4, 8)
	checkWay(t, s, 4, 2, 4, 3, 2)
	checkLatency(t, s, 0, 1, 1)
	checkLatency(t, s, 0, 2, -1)
	s = linked(1)
	s.Hosts = slices.Repeat(s.Hosts, 16)
	checkLatency(t, s, 15, 0, 1)
	checkWithin(t, s, 15, 0, 15)
	checkNoSwitches(t, s, 1, 1)
	checkNoSwitches(t, s, 0, 15)
}

func TestInvalidSites(t *testing.T) {
	for name, s := range misfits() {
		if site.Valid(s) {
			t.Errorf("%s: the site is valid", name)
		}
		numbers := append(strangers(3), 0, 1, 2)
		for _, a := range numbers {
			for _, b := range numbers {
				checkNoSwitches(t, s, a, b)
				checkLatency(t, s, a, b, -1)
				checkWithin(t, s, a, b)
			}
			checkWithin(t, s, a, 100)
		}
	}
}
