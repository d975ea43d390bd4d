package sorts

import "huckster/api"

// label is what lines tell a thing by: the sort that must be there, and the name.
type label struct {
	sort int
	name string
}

// builder is rules that come of lines, as far as these were gone through.
type builder struct {
	rules api.Rules
	seen  *seen
	// numbers are those of all things that any line names, as a line behind may name what one ahead needs.
	numbers map[label]int
}

// newBuilder is a builder that has gone through none of some lines, but knows which things they name.
func newBuilder(l []api.Decl) *builder {
	numbers := map[label]int{}
	var have perSort
	for _, x := range l {
		if mostOf(x.Kind) == 0 {
			continue
		}
		// Which number a name has that stands twice does not matter: there are no rules then.
		numbers[label{x.Kind, x.Name}] = have[x.Kind]
		have[x.Kind]++
	}
	return &builder{seen: newSeen(have), numbers: numbers}
}

// number is that of the thing of a sort and a name, if there is one; what must be no thing has the number 0.
func (b *builder) number(sort int, name string) (int, bool) {
	if sort == noSort {
		return 0, true
	}
	n, is := b.numbers[label{sort, name}]
	return n, is
}

// thing is the line that names one.
func (b *builder) thing(x api.Decl) bool {
	switch x.Kind {
	case api.DeclSet:
		b.rules.Sets = append(b.rules.Sets, x.Name)
	case api.DeclCount:
		b.rules.Counts = append(b.rules.Counts, x.Name)
	case api.DeclNote:
		b.rules.Notes = append(b.rules.Notes, x.Name)
	}
	return b.seen.thing(x.Kind, x.Name)
}

// clause is the line that says one, if it is of a Kind at all.
func (b *builder) clause(x api.Decl) bool {
	f := formOf(x.Kind)
	first, isFirst := b.number(f.a, x.Name)
	second, isSecond := b.number(f.b, x.Other)
	if !isFirst || !isSecond {
		return false
	}
	// Where a clause can't be but strict, that needs not be said.
	c := api.Clause{Kind: x.Kind, Strict: x.Strict || !f.loose, A: first, B: second, N: x.N}
	b.rules.Clauses = append(b.rules.Clauses, c)
	return b.seen.clause(c)
}

// oper is the line that names an operation.
func (b *builder) oper(x api.Decl) bool {
	o := api.Oper{Name: x.Name}
	for _, d := range x.Does {
		n, is := b.number(sortOf(d.Kind), d.Name)
		if !is {
			return false
		}
		o.Does = append(o.Does, api.Doing{Kind: d.Kind, Of: n, N: d.N})
	}
	b.rules.Opers = append(b.rules.Opers, o)
	return b.seen.oper(o)
}

// line goes through a line, and tells whether rules of it and those ahead may be.
func (b *builder) line(x api.Decl) bool {
	switch x.Kind {
	case api.DeclSet, api.DeclCount, api.DeclNote:
		return b.thing(x)
	case api.DeclOp:
		return b.oper(x)
	}
	return b.clause(x)
}
