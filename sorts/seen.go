package sorts

import (
	"slices"

	"huckster/api"
	"huckster/parse"
)

// A sort is told by the Kind of the lines that name its things: DeclSet, DeclCount or DeclNote. noSort is that of what is no thing.
const noSort = 0

// perSort is a number for each sort.
type perSort [api.DeclNote + 1]int

// thing is a set, a count or a note: its sort, and its number among those.
type thing struct {
	sort   int
	number int
}

// form is what clauses of a kind must be: the sorts of A and B, the bounds of N, and whether they may be strict, and may not be.
type form struct {
	a, b        int
	least, most int
	strict      bool
	loose       bool
}

// formOf is the form of a kind's clauses: of a kind that there is not, one that no clause has, as it may be neither strict nor not.
func formOf(kind int) form {
	switch kind {
	case api.DeclRef, api.DeclBoth:
		return form{a: api.DeclSet, b: api.DeclSet, strict: true, loose: true}
	case api.DeclNeeds:
		return form{a: api.DeclCount, b: api.DeclSet, strict: true, loose: true}
	case api.DeclLimit:
		return form{a: api.DeclSet, most: api.MaxAmount, loose: true}
	case api.DeclMost:
		return form{a: api.DeclCount, most: api.MaxAmount, loose: true}
	case api.DeclLeast:
		return form{a: api.DeclCount, least: -api.MaxAmount, strict: true}
	}
	return form{}
}

// sortOf is the sort of the things to which a kind of deed is done, or noSort, if there is no such kind.
func sortOf(deed int) int {
	switch deed {
	case api.EffAdd, api.EffDrop:
		return api.DeclSet
	case api.EffUp, api.EffDown:
		return api.DeclCount
	case api.EffSet:
		return api.DeclNote
	}
	return noSort
}

// mostOf is how many things of a sort there are at most.
func mostOf(sort int) int {
	switch sort {
	case api.DeclSet:
		return api.MaxSets
	case api.DeclCount:
		return api.MaxCounts
	case api.DeclNote:
		return api.MaxRegs
	}
	return 0
}

// mayBeName tells whether a text is a word that is not kept. It goes through the text itself, as layer 15 tells that of whole lines alone, and the layers above ask for it at every turn.
func mayBeName(s string) bool {
	if len(s) < 1 || len(s) > api.MaxName || parse.Kept(s) {
		return false
	}
	for i, r := range s {
		isLetter := r >= 'a' && r <= 'z'
		isDigit := r >= '0' && r <= '9'
		if !isLetter && (i == 0 || !isDigit) {
			return false
		}
	}
	return true
}

// mayBeAmount tells whether a deed to a thing of a sort may have the number: counts alone go by some.
func mayBeAmount(sort, n int) bool {
	if sort == api.DeclCount {
		return n >= 1 && n <= api.MaxAmount
	}
	return n == 0
}

// all tells whether something holds of each of a list; it is not asked behind the first one of which it doesn't.
func all[T any](l []T, holds func(T) bool) bool {
	return !slices.ContainsFunc(l, func(x T) bool { return !holds(x) })
}

// seen is what was seen of rules, part by part. Its methods see one more part, and tell whether rules of all these may be.
type seen struct {
	// have is how many things there are in all: what names them may be seen ahead of them.
	have    perSort
	things  perSort
	clauses int
	opers   int
	names   map[string]struct{}
	// floors are the counts that have one.
	floors map[int]struct{}
	// last is, of each thing, the number of the last operation that does something to it, from 1 on.
	last map[thing]int
}

func newSeen(have perSort) *seen {
	return &seen{have: have, names: map[string]struct{}{}, floors: map[int]struct{}{}, last: map[thing]int{}}
}

// has tells whether there is a thing; what is no thing has the number 0.
func (s *seen) has(sort, number int) bool {
	if sort == noSort {
		return number == 0
	}
	return number >= 0 && number < s.have[sort]
}

func (s *seen) name(name string) bool {
	if !mayBeName(name) {
		return false
	}
	_, twice := s.names[name]
	s.names[name] = struct{}{}
	return !twice
}

func (s *seen) thing(sort int, name string) bool {
	s.things[sort]++
	return s.things[sort] <= mostOf(sort) && s.name(name)
}

// floor sees a count that has one.
func (s *seen) floor(count int) bool {
	_, twice := s.floors[count]
	s.floors[count] = struct{}{}
	return !twice
}

// fits tells whether a clause is of a form.
func (s *seen) fits(c api.Clause, f form) bool {
	if f.a == f.b && c.A == c.B {
		return false
	}
	if c.Strict && !f.strict || !c.Strict && !f.loose {
		return false
	}
	return s.has(f.a, c.A) && s.has(f.b, c.B) && c.N >= f.least && c.N <= f.most
}

func (s *seen) clause(c api.Clause) bool {
	s.clauses++
	if s.clauses > api.MaxClauses || !s.fits(c, formOf(c.Kind)) {
		return false
	}
	return c.Kind != api.DeclLeast || s.floor(c.A)
}

// doing sees what the operation that is seen does.
func (s *seen) doing(d api.Doing) bool {
	sort := sortOf(d.Kind)
	if sort == noSort || !s.has(sort, d.Of) || !mayBeAmount(sort, d.N) {
		return false
	}
	to := thing{sort, d.Of}
	twice := s.last[to] == s.opers
	s.last[to] = s.opers
	return !twice
}

func (s *seen) oper(o api.Oper) bool {
	s.opers++
	if s.opers > api.MaxOpers || len(o.Does) == 0 || len(o.Does) > api.MaxDoes {
		return false
	}
	return s.name(o.Name) && all(o.Does, s.doing)
}

// rules sees all of rules.
func (s *seen) rules(r api.Rules) bool {
	areThings := func(sort int, names []string) bool {
		return all(names, func(name string) bool { return s.thing(sort, name) })
	}
	return areThings(api.DeclSet, r.Sets) &&
		areThings(api.DeclCount, r.Counts) &&
		areThings(api.DeclNote, r.Notes) &&
		all(r.Clauses, s.clause) &&
		all(r.Opers, s.oper)
}
