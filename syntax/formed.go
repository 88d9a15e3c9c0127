package syntax

import (
	"math"

	"majordomo/api"
	"majordomo/lexis"
)

// shape says which fields the clauses or items of a kind have; the others are zero or empty.
type shape struct {
	names                      int // how many at most; where there may be one, there must be one
	domain, index, a, b, items bool
}

func clauseShapes() map[api.ClauseKind]shape {
	return map[api.ClauseKind]shape{
		api.ClauseService: {names: 1, items: true},
		api.ClauseWindow:  {domain: true, index: true, a: true, b: true},
		api.ClauseApprove: {domain: true, index: true},
		api.ClauseBlast:   {a: true},
		api.ClauseCap:     {index: true, a: true},
	}
}

func itemShapes() map[api.ClauseKind]shape {
	return map[api.ClauseKind]shape{
		api.ClauseCores:    {a: true},
		api.ClauseReplicas: {a: true},
		api.ClauseLeast:    {a: true},
		api.ClauseSpread:   {a: true, domain: true},
		api.ClauseApart:    {names: math.MaxInt},
		api.ClauseNear:     {names: 1, a: true},
		api.ClauseFirmware: {a: true},
	}
}

// fits reports whether the fields of a clause are as the shape says; it does not look into its items.
func (s shape) fits(c api.Clause) bool {
	return len(c.Names) <= s.names && len(c.Names) >= min(1, s.names) && all(c.Names, isName) &&
		(scopeOf(c.Domain) != "") == s.domain && (s.domain || c.Domain == api.DomainNone) &&
		fitsNumber(c.Index, s.index) && fitsNumber(c.A, s.a) && fitsNumber(c.B, s.b) &&
		(s.items || len(c.Items) == 0)
}

// fitsNumber reports whether n is a number, or 0 where there is none.
func fitsNumber(n int, there bool) bool {
	return n == 0 || there && isToken(numberToken(n))
}

func isName(s string) bool {
	return !isWord(s) && isToken(nameToken(s))
}

// isToken asks lexis, which alone knows how long names and numbers may be.
func isToken(t api.Token) bool {
	_, e := lexis.Print([]api.Token{t})
	return e == api.OK
}

// all reports whether something holds for all elements of a list.
func all[T any](l []T, holds func(T) bool) bool {
	for _, x := range l {
		if !holds(x) {
			return false
		}
	}
	return true
}
