package linear_test

import (
	"math"
	"math/rand"
	"slices"
	"testing"

	"majordomo/api"
	"majordomo/linear"
)

// P6.5: the consequences.

func course(t *testing.T, a ask) []int {
	t.Helper()
	levels, e := linear.Course(a.line, a.start, a.inputs, a.n)
	if e != api.OK {
		t.Fatalf("Course(%v, %d, %v, %d): error %d", a.line, a.start, a.inputs, a.n, e)
	}
	return levels
}

func TestLevelsAreGreatestSums(t *testing.T) {
	for _, a := range asks() {
		checkCourse(t, a, sums(a))
	}
}

// more returns inputs that are nowhere less: with greater numbers, longer lists and more of them.
func more(r *rand.Rand, inputs [][]int, s size) [][]int {
	l := randomInputs(r, s)
	for len(l) < len(inputs) {
		l = append(l, nil)
	}
	for source, list := range inputs {
		for t, number := range list {
			if t == len(l[source]) {
				l[source] = append(l[source], number)
			} else if l[source][t] < number || r.Intn(2) == 0 {
				l[source][t] = number
			}
		}
	}
	return l
}

func TestMoreInputsGiveNoLowerLevels(t *testing.T) {
	r := rand.New(rand.NewSource(6))
	for i := range 2000 {
		s := tiny()
		if i%100 == 0 {
			s = long()
		}
		a := randomAsk(r, s)
		b := a
		b.inputs = more(r, a.inputs, s)
		lower, higher := course(t, a), course(t, b)
		for tick := range lower {
			if higher[tick] < lower[tick] {
				t.Fatalf("%v, start %d: level %d is %d with %v, and %d with %v", a.line, a.start, tick, lower[tick], a.inputs, higher[tick], b.inputs)
			}
		}
	}
}

// later returns an ask whose delays are all greater by d.
func later(a ask, d int) ask {
	a.line.Parts = slices.Clone(a.line.Parts)
	for i := range a.line.Parts {
		a.line.Parts[i].Delay += d
	}
	return a
}

func TestGreaterDelaysGiveTheSameLevelsLater(t *testing.T) {
	r := rand.New(rand.NewSource(7))
	for i := range 2000 {
		s, d := tiny(), r.Intn(20)
		if i%100 == 0 {
			s, d = long(), r.Intn(500)
			s.delay, s.ticks = 500, 500
		}
		a := randomAsk(r, s)
		a.start = 0
		b := later(a, d)
		b.n += d
		checkCourse(t, b, append(make([]int, d), course(t, a)...))
	}
}

func TestOneCarryLessIsTooLittle(t *testing.T) {
	r := rand.New(rand.NewSource(8))
	for _, a := range asks() {
		limit := slices.Max(sums(a)) * r.Intn(9) / 8
		carry, e := linear.Least(a.line, a.start, a.inputs, a.n, limit)
		if e == api.ErrNone {
			carry = most + 1 // also the greatest Carry is too little
		} else {
			a.line.Carry = carry
			checkFirst(t, a, limit, -1)
		}
		if carry == 0 {
			continue
		}
		a.line.Carry = carry - 1
		if slices.Max(course(t, a)) <= limit {
			t.Errorf("Least(%v, %d, %v, %d, %d) = %d, %d, but one less is enough", a.line, a.start, a.inputs, a.n, limit, carry, e)
		}
	}
}

// DOC.md, rules 1 and 2 and P1: invalid arguments, in the order of the errors.

// call is a call of a function; the list holds all that it returns beside the error.
type call struct {
	name string
	with func(a ask, limit int) ([]int, api.Errno)
}

func calls() []call {
	return []call{
		{"Arrives", func(a ask, limit int) ([]int, api.Errno) {
			number, e := linear.Arrives(a.line, a.inputs, a.n)
			return []int{number}, e
		}},
		{"Course", func(a ask, limit int) ([]int, api.Errno) { return linear.Course(a.line, a.start, a.inputs, a.n) }},
		{"Peak", func(a ask, limit int) ([]int, api.Errno) {
			tick, level, e := linear.Peak(a.line, a.start, a.inputs, a.n)
			return []int{tick, level}, e
		}},
		{"First", func(a ask, limit int) ([]int, api.Errno) {
			tick, e := linear.First(a.line, a.start, a.inputs, a.n, limit)
			return []int{tick}, e
		}},
		{"Least", func(a ask, limit int) ([]int, api.Errno) {
			carry, e := linear.Least(a.line, a.start, a.inputs, a.n, limit)
			return []int{carry}, e
		}},
	}
}

// checkNothing checks that a call gives an error and nothing else, whatever the limit is.
func checkNothing(t *testing.T, c call, a ask, want api.Errno) {
	t.Helper()
	for _, limit := range []int{math.MinInt, -1, 0, 5, 1000, math.MaxInt} {
		got, e := c.with(a, limit)
		zero := make([]int, len(got))
		if c.name == "Course" {
			zero = nil
		}
		if !slices.Equal(got, zero) || e != want {
			t.Errorf("%s with limit %d, though %s is not valid: %v, %d, want nothing, %d", c.name, limit, a.why, got, e, want)
		}
	}
}

// strangeAsks returns asks with a valid line that are ErrRange; for what has no start, only those whose start is valid.
func strangeAsks(l api.Linear, withStart bool) []ask {
	var asks []ask
	for _, inputs := range strangeInputs() {
		asks = append(asks, ask{"a list", l, 6, inputs, 4}, ask{"a list, with n 0,", l, 6, inputs, 0})
	}
	for _, n := range outside(api.MaxTicks) {
		asks = append(asks, ask{"n", l, 6, [][]int{{1, 2}}, n}, ask{"n, without inputs,", l, 0, nil, n})
		asks = append(asks, ask{"n and a list", l, 6, [][]int{{1, -1}}, n})
	}
	if !withStart {
		return asks
	}
	for _, start := range outside(most) {
		asks = append(asks, ask{"the start", l, start, [][]int{{1, 2}}, 4}, ask{"the start, with n 0,", l, start, nil, 0})
		asks = append(asks, ask{"the start and n", l, start, nil, -1}, ask{"the start and a list", l, start, [][]int{{most + 1}}, 4})
	}
	return asks
}

func TestStrangeAsks(t *testing.T) {
	for _, l := range []api.Linear{{}, example(), line(most), greatestAsk().line} {
		for _, c := range calls() {
			for _, a := range strangeAsks(l, c.name != "Arrives") {
				checkNothing(t, c, a, api.ErrRange)
			}
		}
	}
}

func TestStrangeLines(t *testing.T) {
	for _, s := range strangeLines() {
		for _, c := range calls() {
			for _, a := range []ask{{n: 4}, {inputs: [][]int{{1, 2}, {3}}, n: 1000}, {start: most}} {
				a.why, a.line = s.why, s.line
				checkNothing(t, c, a, api.ErrArg)
			}
		}
	}
}

func TestStrangeLinesComeFirst(t *testing.T) {
	for i, s := range strangeLines() {
		for j, a := range strangeAsks(s.line, true) {
			if (i+j)%7 != 0 { // each one meets many others
				continue
			}
			for _, c := range calls() {
				checkNothing(t, c, a, api.ErrArg)
			}
		}
	}
}

// A number at the end of its range is no error.
func TestEndsOfRanges(t *testing.T) {
	greatest := greatestAsk()
	for _, a := range []ask{
		{}, {line: line(most), start: most, n: api.MaxTicks}, {line: example(), inputs: make([][]int, api.MaxSources), n: api.MaxTicks},
		{line: example(), inputs: [][]int{full(api.MaxTicks)}, n: 1}, greatest, {line: greatest.line, inputs: greatest.inputs}, {line: greatest.line, start: most},
	} {
		for _, c := range calls() {
			if _, e := c.with(a, math.MaxInt); e != api.OK {
				t.Errorf("%s with start %d, %d lists and n %d: error %d", c.name, a.start, len(a.inputs), a.n, e)
			}
		}
	}
}

// DOC.md, rules 2 to 5: nil and empty lists are the same, arguments stay as they are, results share no memory, equal arguments give equal results.

func TestNilAndEmpty(t *testing.T) {
	for _, c := range calls() {
		for _, carry := range []int{-1, 0, 3, most, most + 1} {
			for _, limit := range []int{-1, 0, 6, 7} {
				bare := ask{line: api.Linear{Carry: carry}, start: 7, n: 4}
				want, wantE := c.with(bare, limit)
				for _, inputs := range [][][]int{{}, {nil}, {{}}, {nil, {}, nil}, make([][]int, api.MaxSources)} {
					other := ask{line: api.Linear{Carry: carry, Parts: []api.Part{}}, start: 7, inputs: inputs, n: 4}
					if got, e := c.with(other, limit); !slices.Equal(got, want) || e != wantE {
						t.Errorf("%s with Carry %d, limit %d: %v, %d without inputs, and %v, %d with %v", c.name, carry, limit, want, wantE, got, e, inputs)
					}
				}
			}
		}
	}
}

// roomy returns a list with room behind its elements, filled with one of them.
func roomy[T any](l []T, filler T) []T {
	return append(slices.Clone(l), filler, filler)[:len(l)]
}

// unspoilt reports whether a list that roomy returned, and its room, are as they were.
func unspoilt[T comparable](roomed, l []T, filler T) bool {
	return slices.Equal(roomed, l) && slices.Equal(roomed[len(l):len(l)+2], []T{filler, filler})
}

// spoil changes all the memory of a list.
func spoil(l []int) {
	l = l[:cap(l)]
	for i := range l {
		l[i] -= 7777
	}
}

func checkMemory(t *testing.T, c call, a ask, limit int) {
	t.Helper()
	filler := api.Part{Source: 77, Times: 77, Delay: 77}
	handed := a
	handed.line.Parts = roomy(a.line.Parts, filler)
	handed.inputs = roomy(a.inputs, nil)
	for i, list := range a.inputs {
		handed.inputs[i] = roomy(list, 77)
	}
	first, e := c.with(handed, limit)
	want := slices.Clone(first)
	second, againE := c.with(handed, limit)
	if !slices.Equal(second, want) || e != againE {
		t.Errorf("%s of %v differs when it is called again: %v, %d and %v, %d", c.name, a, want, e, second, againE)
	}
	spoil(first)
	if !slices.Equal(second, want) {
		t.Errorf("%s of %v: two results share memory", c.name, a)
	}
	if !unspoilt(handed.line.Parts, a.line.Parts, filler) {
		t.Errorf("%s changed the parts of %v, or shares them", c.name, a)
	}
	for i, list := range a.inputs {
		if !unspoilt(handed.inputs[i], list, 77) {
			t.Errorf("%s changed the list %d of %v, or shares it", c.name, i, a)
		}
	}
	if room := handed.inputs[:len(a.inputs)+2]; len(handed.inputs) != len(a.inputs) || room[len(a.inputs)] != nil || room[len(a.inputs)+1] != nil {
		t.Errorf("%s changed the inputs of %v", c.name, a)
	}
}

func TestMemory(t *testing.T) {
	r := rand.New(rand.NewSource(9))
	bad := []ask{{line: line(-1, part{0, 1, 0})}, {line: example(), start: -1, inputs: [][]int{{1, 2}}}, {line: example(), inputs: [][]int{{1, -2}}, n: 2}}
	for range 300 {
		bad = append(bad, randomAsk(r, tiny()))
	}
	for _, a := range append(bad, samplesAsked()...) {
		for _, c := range calls() {
			for _, limit := range []int{-1, 0, 9, most} {
				checkMemory(t, c, a, limit)
			}
		}
	}
}

func TestValidChangesNothing(t *testing.T) {
	for _, l := range append([]api.Linear{example(), greatestAsk().line}, strangeLines()[2].line) {
		filler := api.Part{Source: 77, Times: 77, Delay: 77}
		handed := l
		handed.Parts = roomy(l.Parts, filler)
		first := linear.Valid(handed)
		if again := linear.Valid(handed); again != first || !unspoilt(handed.Parts, l.Parts, filler) {
			t.Errorf("Valid changed %v, or differs when it is called again", l)
		}
	}
}
