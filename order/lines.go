package order

// ways returns a function that says in how many ways the elements of an ideal can be followed by all others, so that there is a line.
func (b before) ways() func(ideal elements) int {
	known := map[elements]int{b.all(): 1}
	var count func(ideal elements) int
	count = func(ideal elements) int {
		many, ok := known[ideal]
		if ok {
			return many
		}
		for i := range b.enabled(ideal).each {
			many += count(ideal.with(i))
		}
		known[ideal] = many
		return many
	}
	return count
}

// nth returns the line with a number, if there is one.
func (b before) nth(k int) (line []int, ok bool) {
	ways, come := b.ways(), elements(0)
	if k < 0 || k >= ways(come) {
		return nil, false
	}
	for range b {
		for i := range b.enabled(come).each {
			many := ways(come.with(i))
			if k < many {
				line, come = append(line, i), come.with(i)
				break
			}
			k -= many
		}
	}
	return line, true
}

// rank returns the number of a list, if it is a line.
func (b before) rank(list []int) (k int, ok bool) {
	if len(list) != len(b) {
		return 0, false
	}
	ways, come := b.ways(), elements(0)
	for _, i := range list {
		next := b.enabled(come)
		if !next.has(i) {
			return 0, false
		}
		for lesser := range next.each {
			if lesser < i {
				k += ways(come.with(lesser))
			}
		}
		come = come.with(i)
	}
	return k, true
}
