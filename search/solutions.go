package search

// none is the variable that is not there.
const none = -1

// solutions yields the solutions that are left, in no order that matters. The bound of the costs may be lowered between them. At the end the same values are left as before.
func (r *rest) solutions(yield func(a []int) bool) {
	var try func() bool
	try = func() bool {
		variable := r.next()
		if variable == none {
			return yield(r.assignment())
		}
		for _, value := range r.order[variable] {
			mark := len(r.trail)
			goesOn := !r.take(variable, value) || try()
			r.back(mark)
			if !goesOn {
				return false
			}
		}
		return true
	}
	mark := len(r.trail)
	if r.settleAll() {
		try()
	}
	r.back(mark)
}

// next returns the variable whose values are to be tried next, none if each has one value only. Variables with few values and much trouble come first, so that what cannot be kept is seen early.
func (r *rest) next() int {
	best := none
	for variable, c := range r.left {
		if c.size() > 1 && (best == none || c.size()*r.trouble[best] < r.left[best].size()*r.trouble[variable]) {
			best = variable
		}
	}
	return best
}

// assignment returns the values of the variables when each has one value only.
func (r *rest) assignment() []int {
	var a []int
	for _, c := range r.left {
		a = append(a, c.lowest())
	}
	return a
}

// some returns one of the solutions, if there is one.
func (r *rest) some() (a []int, found bool) {
	for a := range r.solutions {
		return a, true
	}
	return nil, false
}

// least returns the least cost of the solutions, if there is one.
func (r *rest) least() (cost int, found bool) {
	for a := range r.solutions {
		cost, found = sum(r.rules[len(r.rules)-1], a), true
		r.allow(cost - 1) // what follows must be cheaper
	}
	return cost, found
}

// first returns the first one of the solutions, if there is one. It goes from variable to variable and asks for each lesser value whether a solution has it; so the solutions themselves may come in any order.
func (r *rest) first() (a []int, found bool) {
	a, found = r.some()
	for variable := range a {
		for value := 0; value < a[variable]; value++ {
			if lesser, ok := r.someWith(variable, value); ok {
				a = lesser // this ends the loop: its value here is the one that was asked for
			}
		}
		r.take(variable, a[variable])
	}
	return a, found
}

// someWith returns one of the solutions in which a variable has a value, if there is one.
func (r *rest) someWith(variable, value int) (a []int, found bool) {
	mark := len(r.trail)
	if r.take(variable, value) {
		a, found = r.some()
	}
	r.back(mark)
	return a, found
}
