package linear_test

import (
	"math"
	"math/rand"
	"slices"

	"majordomo/api"
)

const most = api.MaxCap

// part is a part: its Source, its Times and its Delay.
type part [3]int

func line(carry int, parts ...part) api.Linear {
	l := api.Linear{Carry: carry}
	for _, p := range parts {
		l.Parts = append(l.Parts, api.Part{Source: p[0], Times: p[1], Delay: p[2]})
	}
	return l
}

// example is the line of the chapter's examples.
func example() api.Linear { return line(10, part{0, 1, 0}, part{1, 2, 2}) }

// ask is what a line is asked with: its inputs, a start and a number of ticks.
type ask struct {
	why    string
	line   api.Linear
	start  int
	inputs [][]int
	n      int
}

func full(length int) []int { return slices.Repeat([]int{most}, length) }

// greatestAsk has the greatest numbers everywhere, but for Carry and the delays.
func greatestAsk() ask {
	a := ask{"all numbers as great as can be", line(0), most, nil, api.MaxTicks}
	for source := range api.MaxSources {
		a.line.Parts = append(a.line.Parts, api.Part{Source: source, Times: api.MaxTimes})
		a.inputs = append(a.inputs, full(api.MaxTicks))
	}
	return a
}

// amounts returns by tick what arrives. Each number of an input is brought on to where it arrives, unlike in the program, which looks back for it.
func amounts(l api.Linear, inputs [][]int) []int {
	sums := make([]int, 2*api.MaxTicks+1)
	for source, list := range inputs {
		for t, number := range list {
			for _, p := range l.Parts {
				if p.Source == source {
					sums[t+p.Delay] += number * p.Times
				}
			}
		}
	}
	return sums
}

// sums returns the levels as P6.5 says: each is the greatest one of sums.
func sums(a ask) []int {
	come := amounts(a.line, a.inputs)
	var levels []int
	for t := range a.n + 1 {
		sum, greatest := 0, 0
		for i := t - 1; i >= 0; i-- {
			sum += come[i] - a.line.Carry
			greatest = max(greatest, sum)
		}
		levels = append(levels, max(greatest, a.start+sum))
	}
	return levels
}

// enough returns the least number that is at least a/b and not below 0.
func enough(a, b int) int {
	if a <= 0 {
		return 0
	}
	return (a + b - 1) / b
}

// least returns what Least should: each of the sums of P6.5 demands a Carry of its own.
func least(a ask, limit int) (int, api.Errno) {
	if a.start > limit {
		return 0, api.ErrNone
	}
	come, carry := amounts(a.line, a.inputs), 0
	for t := 1; t <= a.n; t++ {
		sum := 0
		for i := t - 1; i >= 0; i-- {
			sum += come[i]
			carry = max(carry, enough(sum-limit, t-i))
		}
		carry = max(carry, enough(a.start+sum-limit, t))
	}
	if carry > most {
		return 0, api.ErrNone
	}
	return carry, api.OK
}

// size says how great the numbers of a random ask are, at most.
type size struct{ parts, sources, times, delay, length, number, ticks int }

func tiny() size { return size{4, 3, 3, 4, 6, 9, 12} }

func great() size {
	return size{api.MaxParts, api.MaxSources, api.MaxTimes, api.MaxTicks, api.MaxTicks, most, api.MaxTicks}
}

// long is as great as great, but its numbers are so small that Carry can keep up with them.
func long() size {
	s := great()
	s.number = 500
	return s
}

func randomInputs(r *rand.Rand, s size) [][]int {
	inputs := make([][]int, r.Intn(s.sources+1))
	for i := range inputs {
		inputs[i] = make([]int, r.Intn(s.length+1))
		for t := range inputs[i] {
			inputs[i][t] = r.Intn(s.number + 1)
		}
	}
	return inputs
}

func randomLine(r *rand.Rand, s size) api.Linear {
	l := line(0)
	for range r.Intn(s.parts + 1) {
		l.Parts = append(l.Parts, api.Part{Source: r.Intn(s.sources), Times: r.Intn(s.times + 1), Delay: r.Intn(s.delay + 1)})
	}
	return l
}

// randomAsk returns an ask whose Carry is often near to what arrives, so that its levels fall and rise.
func randomAsk(r *rand.Rand, s size) ask {
	a := ask{"a random one", randomLine(r, s), r.Intn(s.number + 1), randomInputs(r, s), r.Intn(s.ticks + 1)}
	a.line.Carry = min(most, slices.Max(amounts(a.line, a.inputs))*r.Intn(5)/4)
	if r.Intn(4) == 0 {
		a.line.Carry = r.Intn(s.number + 1)
	}
	if r.Intn(4) == 0 {
		a.start = 0
	}
	return a
}

func randomAsks(seed int64) []ask {
	r := rand.New(rand.NewSource(seed))
	var l []ask
	for range 3000 {
		l = append(l, randomAsk(r, tiny()))
	}
	for range 25 {
		l = append(l, randomAsk(r, long()), randomAsk(r, great()))
	}
	return l
}

// asks returns the asks of the table and random ones.
func asks() []ask { return slices.Concat(samplesAsked(), randomAsks(1)) }

// strangeLine is a line that is not valid.
type strangeLine struct {
	why  string
	line api.Linear
}

// outside returns numbers that are not from 0 to a greatest one.
func outside(greatest int) []int {
	return []int{-1, greatest + 1, -greatest, math.MinInt, math.MaxInt}
}

// strangeLines returns a line for each way in which it can be not valid: in a first, a middle and a last part, too.
func strangeLines() []strangeLine {
	var l []strangeLine
	for _, carry := range outside(most) {
		l = append(l, strangeLine{"its Carry", line(carry)}, strangeLine{"its Carry", line(carry, part{0, 1, 0}, part{1, 2, 2})})
	}
	for _, count := range []int{api.MaxParts + 1, api.MaxParts + 2, 1 << 20} {
		l = append(l, strangeLine{"its number of parts", line(10, slices.Repeat([]part{{0, 1, 0}}, count)...)})
	}
	var strange []part
	for _, source := range outside(api.MaxSources - 1) {
		strange = append(strange, part{source, 1, 0})
	}
	for _, times := range outside(api.MaxTimes) {
		strange = append(strange, part{0, times, 0})
	}
	for _, delay := range outside(api.MaxTicks) {
		strange = append(strange, part{0, 1, delay})
	}
	good := []part{{0, 1, 0}, {1, 2, 2}, {15, 1000, 1000}}
	for _, p := range strange {
		l = append(l, strangeLine{"its only part", line(10, p)})
		for at := range len(good) + 1 {
			l = append(l, strangeLine{"one of its parts", line(10, slices.Insert(slices.Clone(good), at, p)...)})
		}
	}
	return l
}

// strangeInputs returns inputs that are not valid.
func strangeInputs() [][][]int {
	l := [][][]int{make([][]int, api.MaxSources+1), make([][]int, api.MaxSources+2), make([][]int, 1<<20), slices.Repeat([][]int{{1}}, api.MaxSources+1)}
	strange := [][]int{make([]int, api.MaxTicks+1), make([]int, 1<<20), append(make([]int, api.MaxTicks-1), -1), append(make([]int, api.MaxTicks-1), most+1)}
	for _, number := range outside(most) {
		strange = append(strange, []int{number}, []int{number, 1, 2}, []int{1, number, 2}, []int{1, 2, number})
	}
	for _, list := range strange {
		last := append(make([][]int, api.MaxSources-1), list) // no part of the example has this source
		l = append(l, [][]int{list}, [][]int{list, {1, 2}}, [][]int{{1, 2}, list}, [][]int{nil, nil, list, nil}, last)
	}
	return l
}
