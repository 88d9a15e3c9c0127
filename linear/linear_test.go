package linear_test

import (
	"math"
	"math/rand"
	"slices"
	"testing"

	"majordomo/api"
	"majordomo/linear"
)

// P6.1: Valid and Arrives.

func TestValid(t *testing.T) {
	for _, l := range []api.Linear{
		{}, {Parts: []api.Part{}}, {Carry: 1}, {Carry: most - 1}, {Carry: most}, example(),
		line(0, part{0, 0, 0}), line(most, part{15, 1000, 1000}), line(7, part{14, 999, 999}, part{14, 999, 999}),
		line(1, slices.Repeat([]part{{3, 4, 5}}, api.MaxParts-1)...), line(1, slices.Repeat([]part{{15, 1000, 1000}}, api.MaxParts)...),
		greatestAsk().line,
	} {
		if !linear.Valid(l) {
			t.Errorf("not valid: %v", l)
		}
	}
	for _, s := range strangeLines() {
		if linear.Valid(s.line) {
			t.Errorf("valid, though %s is not: Carry %d, %d parts", s.why, s.line.Carry, len(s.line.Parts))
		}
	}
}

func checkArrives(t *testing.T, l api.Linear, inputs [][]int, tick, want int) {
	t.Helper()
	if got, e := linear.Arrives(l, inputs, tick); got != want || e != api.OK {
		t.Errorf("Arrives(%v, %v, %d) = %d, %d, want %d, OK", l, inputs, tick, got, e, want)
	}
}

func TestArrives(t *testing.T) {
	late := append(make([]int, 999), 6) // gives 6 in the last tick for which there can be a number
	for _, c := range []struct {
		line   api.Linear
		inputs [][]int
		ticks  []int
		want   []int
	}{
		{example(), [][]int{{7}, {5, 6}}, []int{0, 1, 2, 3, 4, 9, 1000}, []int{7, 0, 10, 12, 0, 0, 0}},
		{line(0), [][]int{{7}, {5, 6}}, []int{0, 1, 1000}, []int{0, 0, 0}}, // no part
		{example(), nil, []int{0, 2, 1000}, []int{0, 0, 0}},
		{example(), [][]int{nil, {}}, []int{0, 2, 1000}, []int{0, 0, 0}},
		{example(), [][]int{{7, 8, 9}}, []int{0, 1, 2, 3}, []int{7, 8, 9, 0}},           // no list for a source
		{line(0, part{15, 3, 1}), [][]int{{7}, {8}}, []int{0, 1, 2}, []int{0, 0, 0}},    // nor for the only one
		{line(0, part{1, 3, 1}), [][]int{{7}, {8}}, []int{0, 1, 2}, []int{0, 24, 0}},    // the other list is not used
		{line(0, part{0, 0, 0}), [][]int{{7, 8}}, []int{0, 1}, []int{0, 0}},             // no times
		{line(0, part{0, 1000, 0}), [][]int{{7, 8}}, []int{0, 1}, []int{7000, 8000}},    // many times
		{line(9, part{0, 1, 3}), [][]int{{7, 8}}, []int{2, 3, 4, 5}, []int{0, 7, 8, 0}}, // what is carried away does not matter
		{line(most, part{0, 1, 3}), [][]int{{7, 8}}, []int{2, 3, 4, 5}, []int{0, 7, 8, 0}},
		{line(0, part{0, 1, 1000}), [][]int{{7, 8}}, []int{0, 1, 999, 1000}, []int{0, 0, 0, 7}},
		{line(0, part{0, 1, 0}), [][]int{late}, []int{998, 999, 1000}, []int{0, 6, 0}},
		{line(0, part{0, 1, 1}), [][]int{late}, []int{999, 1000}, []int{0, 6}},
		{line(0, part{0, 1, 2}), [][]int{late}, []int{999, 1000}, []int{0, 0}},
		{line(0, part{0, 1, 0}, part{0, 10, 0}, part{0, 100, 1}, part{0, 100, 1}), [][]int{{1, 2, 3}}, []int{0, 1, 2, 3, 4}, []int{11, 222, 433, 600, 0}}, // parts of one source
		{line(0, part{2, 1, 0}, part{0, 10, 1}, part{1, 100, 2}), [][]int{{1, 2}, {3}, {4, 5, 6}}, []int{0, 1, 2, 3}, []int{4, 15, 326, 0}},
		{line(0, slices.Repeat([]part{{3, 2, 1}}, 16)...), [][]int{3: {5}}, []int{0, 1, 2}, []int{0, 160, 0}},
		{line(0, part{0, 1, 0}), [][]int{{0, most}}, []int{0, 1}, []int{0, most}},
		{greatestAsk().line, greatestAsk().inputs, []int{0, 999, 1000}, []int{16000 * most, 16000 * most, 0}},
	} {
		for i, tick := range c.ticks {
			checkArrives(t, c.line, c.inputs, tick, c.want[i])
		}
	}
}

func TestArrivesInEachTick(t *testing.T) {
	for _, a := range asks() {
		last := 30
		if a.n > last {
			last = api.MaxTicks
		}
		want := amounts(a.line, a.inputs)
		for tick := range last + 1 {
			checkArrives(t, a.line, a.inputs, tick, want[tick])
		}
	}
}

// sample is an ask, with the answers.
type sample struct {
	ask
	course         []int
	peakTick, peak int
	firsts         [][2]int // a limit, and the first tick above it
	leasts         [][2]int // a limit, and the least Carry; -1: there is none
}

func samples() []sample {
	one := line(4, part{0, 1, 0})
	return []sample{
		{ask{"the example", example(), 0, [][]int{{15, 15}, {20}}, 4}, []int{0, 5, 10, 40, 30}, 3, 40, [][2]int{{9, 2}, {40, -1}, {-1, 0}, {0, 1}, {5, 2}, {10, 3}, {39, 3}}, [][2]int{{20, 20}, {0, 40}, {-1, -1}, {70, 0}, {69, 1}, {40, 10}, {39, 11}}},
		{ask{"the example without inputs", example(), 5, nil, 4}, []int{5, 0, 0, 0, 0}, 0, 5, [][2]int{{4, 0}, {5, -1}}, [][2]int{{4, -1}, {5, 0}, {0, -1}}},
		{ask{"no ticks", one, 3, [][]int{{9, 9}}, 0}, []int{3}, 0, 3, [][2]int{{2, 0}, {3, -1}}, [][2]int{{2, -1}, {3, 0}, {4, 0}}},
		{ask{"no ticks from 0", one, 0, [][]int{{9, 9}}, 0}, []int{0}, 0, 0, [][2]int{{-1, 0}, {0, -1}}, [][2]int{{-1, -1}, {0, 0}}},
		{ask{"one tick", one, 3, [][]int{{9, 9}}, 1}, []int{3, 8}, 1, 8, [][2]int{{7, 1}, {8, -1}}, [][2]int{{3, 9}, {4, 8}, {11, 1}, {12, 0}, {2, -1}}},
		{ask{"no part", line(2), 5, [][]int{{9, 9}}, 4}, []int{5, 3, 1, 0, 0}, 0, 5, [][2]int{{4, 0}, {5, -1}}, [][2]int{{4, -1}, {5, 0}}},
		{ask{"no part and no Carry", line(0), 5, nil, 3}, []int{5, 5, 5, 5}, 0, 5, [][2]int{{4, 0}, {5, -1}}, [][2]int{{4, -1}, {5, 0}}},
		{ask{"a level that falls to 0 and rises again", one, 6, [][]int{{0, 0, 9, 0, 0, 7, 1}}, 8}, []int{6, 2, 0, 5, 1, 0, 3, 0, 0}, 0, 6, [][2]int{{5, 0}, {6, -1}}, [][2]int{{6, 3}, {9, 3}, {10, 2}, {15, 2}, {16, 1}, {22, 1}, {23, 0}}},
		{ask{"a level that falls to exactly 0", one, 8, [][]int{{0, 0, 9}}, 3}, []int{8, 4, 0, 5}, 0, 8, [][2]int{{7, 0}, {8, -1}}, [][2]int{{8, 3}, {9, 3}, {10, 3}, {11, 2}, {14, 1}, {17, 0}}},
		{ask{"a level that stays at 0", one, 0, [][]int{{4, 3, 4, 0, 4}}, 5}, []int{0, 0, 0, 0, 0, 0}, 0, 0, [][2]int{{-1, 0}, {0, -1}}, [][2]int{{0, 4}, {1, 4}, {2, 3}, {15, 0}, {14, 1}}},
		{ask{"a greatest level that is reached again", one, 0, [][]int{{9, 4, 3, 5, 0, 8}}, 6}, []int{0, 5, 5, 4, 5, 1, 5}, 1, 5, [][2]int{{4, 1}, {5, -1}, {0, 1}}, [][2]int{{5, 4}, {0, 9}, {4, 5}, {29, 0}}},
		{ask{"the greatest level is the start, and is reached again", one, 5, [][]int{{0, 8, 4}}, 3}, []int{5, 1, 5, 5}, 0, 5, [][2]int{{4, 0}, {5, -1}}, [][2]int{{5, 4}, {6, 4}, {7, 4}, {8, 3}}},
		{ask{"the greatest level is the last one", one, 1, [][]int{{5, 6, 7}}, 3}, []int{1, 2, 4, 7}, 3, 7, [][2]int{{6, 3}, {7, -1}, {1, 1}, {2, 2}, {3, 2}}, [][2]int{{0, -1}, {1, 6}, {5, 5}, {7, 4}, {18, 1}, {19, 0}}},
		{ask{"what comes after n does not matter", one, 1, [][]int{{5, 6, 7, 900, 900}}, 3}, []int{1, 2, 4, 7}, 3, 7, [][2]int{{7, -1}}, [][2]int{{7, 4}, {19, 0}}},
		{ask{"what arrives after n does not matter", line(1, part{0, 2, 3}), 0, [][]int{{5, 900}}, 4}, []int{0, 0, 0, 0, 9}, 4, 9, [][2]int{{8, 4}, {9, -1}}, [][2]int{{0, 10}, {9, 1}, {10, 0}}},
		{ask{"nothing arrives so soon", line(1, part{0, 2, 3}), 2, [][]int{{5, 900}}, 3}, []int{2, 1, 0, 0}, 0, 2, [][2]int{{1, 0}, {2, -1}}, [][2]int{{1, -1}, {2, 0}}},
		{ask{"parts of one source, and one of none", line(3, part{0, 1, 0}, part{0, 2, 1}, part{9, 9, 0}), 0, [][]int{{4, 1}}, 3}, []int{0, 1, 7, 6}, 2, 7, [][2]int{{0, 1}, {1, 2}, {7, -1}}, [][2]int{{0, 9}, {6, 4}, {7, 3}, {15, 0}}},
		{ask{"a source of times 0", line(1, part{0, 0, 0}, part{1, 1, 0}), 0, [][]int{{most, most}, {3}}, 2}, []int{0, 2, 1}, 1, 2, [][2]int{{1, 1}, {2, -1}}, [][2]int{{0, 3}, {2, 1}, {3, 0}}},
		{ask{"the greatest Carry", line(most, part{0, 1, 0}), most, [][]int{{most, most, most}}, 3}, []int{most, most, most, most}, 0, most, [][2]int{{most - 1, 0}, {most, -1}}, [][2]int{{most, most}, {most + 2, most}, {most + 3, most - 1}, {most - 1, -1}, {4*most - 1, 1}, {4 * most, 0}}},
		{ask{"the greatest Carry and more", line(most, part{0, 2, 0}), 0, [][]int{{most}}, 2}, []int{0, most, 0}, 1, most, [][2]int{{most - 1, 1}, {most, -1}}, [][2]int{{most - 1, -1}, {most, most}, {most + 1, most - 1}, {2 * most, 0}}},
		{ask{"the greatest Carry is not enough from 1 on", line(0, part{0, 1, 0}), 1, [][]int{{most, most}}, 2}, []int{1, most + 1, 2*most + 1}, 2, 2*most + 1, nil, [][2]int{{0, -1}, {1, most}, {2, most}, {3, most - 1}}},
	}
}

func samplesAsked() []ask {
	var l []ask
	for _, s := range samples() {
		l = append(l, s.ask)
	}
	return l
}

// limits returns limits below, at and above each level of a course.
func limits(course []int) []int {
	l := []int{math.MinInt, -1, 0, 1, math.MaxInt}
	for _, level := range course {
		l = append(l, level-1, level, level+1)
	}
	slices.Sort(l)
	return slices.Compact(l)
}

// P6.2: Course.

func checkCourse(t *testing.T, a ask, want []int) {
	t.Helper()
	if got, e := linear.Course(a.line, a.start, a.inputs, a.n); !slices.Equal(got, want) || e != api.OK {
		t.Errorf("%s: Course(%v, %d, %v, %d) = %v, %d, want %v, OK", a.why, a.line, a.start, a.inputs, a.n, got, e, want)
	}
}

func TestCourse(t *testing.T) {
	for _, s := range samples() {
		checkCourse(t, s.ask, s.course)
	}
}

func TestCourseOfTheGreatestNumbers(t *testing.T) {
	a, want := greatestAsk(), []int{most}
	for range api.MaxTicks {
		want = append(want, want[len(want)-1]+16000*most)
	}
	checkCourse(t, a, want)
	a.line.Carry = most
	for i := range want {
		want[i] -= i * most
	}
	checkCourse(t, a, want)
	for i := range a.line.Parts {
		a.line.Parts[i].Delay = api.MaxTicks
	}
	checkCourse(t, a, append([]int{most}, make([]int, api.MaxTicks)...)) // nothing arrives before tick 1000
}

// TestCourseIsStepByStep checks the levels as the chapter defines them.
func TestCourseIsStepByStep(t *testing.T) {
	for _, a := range randomAsks(2) {
		come, want := amounts(a.line, a.inputs), []int{a.start}
		for tick := range a.n {
			want = append(want, max(0, want[tick]+come[tick]-a.line.Carry))
		}
		checkCourse(t, a, want)
	}
}

// P6.3: Peak and First.

func checkPeak(t *testing.T, a ask, wantTick, want int) {
	t.Helper()
	if tick, level, e := linear.Peak(a.line, a.start, a.inputs, a.n); tick != wantTick || level != want || e != api.OK {
		t.Errorf("%s: Peak(%v, %d, %v, %d) = %d, %d, %d, want %d, %d, OK", a.why, a.line, a.start, a.inputs, a.n, tick, level, e, wantTick, want)
	}
}

func TestPeak(t *testing.T) {
	for _, s := range samples() {
		checkPeak(t, s.ask, s.peakTick, s.peak)
	}
	a := greatestAsk()
	checkPeak(t, a, 1000, most+16000*1000*most)
	a.line.Carry = most
	checkPeak(t, a, 1000, most+15999*1000*most)
}

func TestPeakOfCourses(t *testing.T) {
	for _, a := range asks() {
		levels := sums(a)
		greatest := slices.Max(levels)
		checkPeak(t, a, slices.Index(levels, greatest), greatest)
	}
}

func checkFirst(t *testing.T, a ask, limit, want int) {
	t.Helper()
	if got, e := linear.First(a.line, a.start, a.inputs, a.n, limit); got != want || e != api.OK {
		t.Errorf("%s: First(%v, %d, %v, %d, %d) = %d, %d, want %d, OK", a.why, a.line, a.start, a.inputs, a.n, limit, got, e, want)
	}
}

func TestFirst(t *testing.T) {
	for _, s := range samples() {
		for _, p := range s.firsts {
			checkFirst(t, s.ask, p[0], p[1])
		}
		checkFirst(t, s.ask, math.MinInt, 0)
		checkFirst(t, s.ask, -1, 0)
		checkFirst(t, s.ask, s.peak, -1)
		checkFirst(t, s.ask, math.MaxInt, -1)
	}
	a := greatestAsk()
	checkFirst(t, a, most+16000*999*most, 1000)
	checkFirst(t, a, most+16000*1000*most, -1)
}

// fewer returns some of the limits, if there are many.
func fewer(r *rand.Rand, l []int) []int {
	r.Shuffle(len(l), func(i, j int) { l[i], l[j] = l[j], l[i] })
	return l[:min(len(l), 60)]
}

func TestFirstOfCourses(t *testing.T) {
	r := rand.New(rand.NewSource(3))
	for _, a := range asks() {
		levels := sums(a)
		for _, limit := range fewer(r, limits(levels)) {
			above := func(level int) bool { return level > limit }
			checkFirst(t, a, limit, slices.IndexFunc(levels, above))
		}
	}
}

// P6.4: Least.

func checkLeast(t *testing.T, a ask, limit, want int, wantE api.Errno) {
	t.Helper()
	if got, e := linear.Least(a.line, a.start, a.inputs, a.n, limit); got != want || e != wantE {
		t.Errorf("%s: Least(%v, %d, %v, %d, %d) = %d, %d, want %d, %d", a.why, a.line, a.start, a.inputs, a.n, limit, got, e, want, wantE)
	}
}

func TestLeast(t *testing.T) {
	for _, s := range samples() {
		for _, p := range s.leasts {
			if p[1] < 0 {
				checkLeast(t, s.ask, p[0], 0, api.ErrNone)
			} else {
				checkLeast(t, s.ask, p[0], p[1], api.OK)
			}
		}
		checkLeast(t, s.ask, math.MinInt, 0, api.ErrNone)
		checkLeast(t, s.ask, -1, 0, api.ErrNone)
		checkLeast(t, s.ask, s.start-1, 0, api.ErrNone)
		checkLeast(t, s.ask, math.MaxInt, 0, api.OK)
	}
	a := greatestAsk()
	checkLeast(t, a, most+16000*1000*most, 0, api.OK)
	checkLeast(t, a, most+16000*1000*most-1, 1, api.OK)
	checkLeast(t, a, most+15999*1000*most, most, api.OK)
	checkLeast(t, a, most+15999*1000*most-1, 0, api.ErrNone)
}

// TestLeastOfCourses checks also that the Carry of the line is not used.
func TestLeastOfCourses(t *testing.T) {
	r := rand.New(rand.NewSource(4))
	for _, a := range asks() {
		count := 12
		if a.n > 30 {
			count = 3
		}
		l := fewer(r, limits(sums(a)))
		for _, limit := range l[:min(len(l), count)] {
			want, e := least(a, limit)
			checkLeast(t, a, limit, want, e)
			other := a
			other.line.Carry = r.Intn(most + 1)
			checkLeast(t, other, limit, want, e)
		}
	}
}

// leastOfAll tries one Carry after the other, up to one that is above all that can arrive in a tiny ask.
func leastOfAll(a ask, limit int) (int, api.Errno) {
	for a.line.Carry = range 200 {
		if slices.Max(sums(a)) <= limit {
			return a.line.Carry, api.OK
		}
	}
	return 0, api.ErrNone
}

func TestLeastOfTinyAsks(t *testing.T) {
	r := rand.New(rand.NewSource(5))
	for range 1000 {
		a := randomAsk(r, tiny())
		for _, limit := range []int{-1, a.start - 1, a.start, a.start + 1, a.start + r.Intn(9), a.start + r.Intn(99)} {
			want, e := leastOfAll(a, limit)
			checkLeast(t, a, limit, want, e)
		}
	}
}
