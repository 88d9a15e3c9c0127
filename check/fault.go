package check

import (
	"strconv"

	"majordomo/api"
)

// fault is an error of a tree, with the offset of the clause or item that it is found at.
type fault struct {
	at    int
	errno api.Errno
}

func (f *fault) Error() string {
	return "error " + strconv.Itoa(int(f.errno)) + " at " + strconv.Itoa(f.at)
}

// rule is an error, and whether it is there.
type rule struct {
	errno  api.Errno
	broken bool
}

// ask returns the first rule that is broken, as a fault.
func ask(at int, rules ...rule) error {
	for _, r := range rules {
		if r.broken {
			return &fault{at: at, errno: r.errno}
		}
	}
	return nil
}

// checker checks a clause or an item, and keeps what it means.
type checker func(c api.Clause) error

// each checks clauses or items in order, by their kinds, up to the first fault.
func each(l []api.Clause, checkers map[api.ClauseKind]checker) error {
	for _, c := range l {
		if err := checkers[c.Kind](c); err != nil {
			return err
		}
	}
	return nil
}
