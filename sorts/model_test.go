package sorts

import (
	"math/rand"
	"regexp"
	"slices"
	"testing"

	"huckster/api"
	"huckster/parse"
)

// word is the form of one, all of the text.
var word = regexp.MustCompile(`\A[a-z][a-z0-9]{0,15}\z`)

// isName tells whether a text is a word that is not kept.
func isName(s string) bool { return word.MatchString(s) && !slices.Contains(keptWords(), s) }

// within tells whether a number is that of one of so many things.
func within(n, many int) bool { return 0 <= n && n < many }

// mayBeClause tells whether the chapter's list has such a clause, but for how many there are.
func mayBeClause(r api.Rules, c api.Clause) bool {
	setA, setB, countA := within(c.A, len(r.Sets)), within(c.B, len(r.Sets)), within(c.A, len(r.Counts))
	switch c.Kind {
	case api.DeclRef, api.DeclBoth:
		return setA && setB && c.A != c.B && c.N == 0
	case api.DeclNeeds:
		return countA && setB && c.N == 0
	case api.DeclLimit:
		return setA && c.B == 0 && c.N >= 0 && c.N <= 1000 && !c.Strict
	case api.DeclMost:
		return countA && c.B == 0 && c.N >= 0 && c.N <= 1000 && !c.Strict
	case api.DeclLeast:
		return countA && c.B == 0 && c.N >= -1000 && c.N <= 0 && c.Strict
	}
	return false
}

// mayBeDoing tells whether the chapter's list has such a deed.
func mayBeDoing(r api.Rules, d api.Doing) bool {
	switch d.Kind {
	case api.EffAdd, api.EffDrop:
		return within(d.Of, len(r.Sets)) && d.N == 0
	case api.EffUp, api.EffDown:
		return within(d.Of, len(r.Counts)) && d.N >= 1 && d.N <= 1000
	case api.EffSet:
		return within(d.Of, len(r.Notes)) && d.N == 0
	}
	return false
}

// toOneThing tells whether two deeds that may be are to the same thing.
func toOneThing(a, b api.Doing) bool {
	sorts := []int{api.EffAdd: 1, api.EffDrop: 1, api.EffUp: 2, api.EffDown: 2, api.EffMove: 0, api.EffSet: 3}
	return sorts[a.Kind] == sorts[b.Kind] && a.Of == b.Of
}

// mayBeDeeds tells whether an operation may do these.
func mayBeDeeds(r api.Rules, l []api.Doing) bool {
	if len(l) < 1 || len(l) > 16 {
		return false
	}
	for i, d := range l {
		if !mayBeDoing(r, d) {
			return false
		}
		for _, ahead := range l[:i] {
			if toOneThing(ahead, d) {
				return false
			}
		}
	}
	return true
}

// mayBeNames tells whether all names may be, and no two are the same.
func mayBeNames(r api.Rules) bool {
	all := slices.Concat(r.Sets, r.Counts, r.Notes)
	for _, o := range r.Opers {
		all = append(all, o.Name)
	}
	for i, s := range all {
		if !isName(s) || slices.Contains(all[:i], s) {
			return false
		}
	}
	return true
}

// mayBe tells whether rules may be, by the chapter's words.
func mayBe(r api.Rules) bool {
	if len(r.Sets) > 6 || len(r.Counts) > 4 || len(r.Notes) > 3 || len(r.Opers) > 16 || len(r.Clauses) > 12 || !mayBeNames(r) {
		return false
	}
	for i, c := range r.Clauses {
		if !mayBeClause(r, c) {
			return false
		}
		for _, ahead := range r.Clauses[:i] {
			if c.Kind == api.DeclLeast && ahead.Kind == api.DeclLeast && ahead.A == c.A {
				return false
			}
		}
	}
	return !slices.ContainsFunc(r.Opers, func(o api.Oper) bool { return !mayBeDeeds(r, o.Does) })
}

// place is the number of the thing of a sort that lines name so, or -1, if no line does.
func place(l []api.Decl, kind int, name string) int {
	l = slices.DeleteFunc(slices.Clone(l), func(x api.Decl) bool { return x.Kind != kind })
	return slices.IndexFunc(l, func(x api.Decl) bool { return x.Name == name })
}

// asClause is what a line says, with -1 for what is not there.
func asClause(l []api.Decl, x api.Decl) api.Clause {
	c := api.Clause{Kind: x.Kind, Strict: x.Strict || x.Kind == api.DeclLeast, N: x.N}
	switch x.Kind {
	case api.DeclRef, api.DeclBoth:
		c.A, c.B = place(l, api.DeclSet, x.Name), place(l, api.DeclSet, x.Other)
	case api.DeclNeeds:
		c.A, c.B = place(l, api.DeclCount, x.Name), place(l, api.DeclSet, x.Other)
	case api.DeclLimit:
		c.A = place(l, api.DeclSet, x.Name)
	case api.DeclMost, api.DeclLeast:
		c.A = place(l, api.DeclCount, x.Name)
	}
	return c
}

// asOper is what a line says, with -1 for what is not there.
func asOper(l []api.Decl, x api.Decl) api.Oper {
	o := api.Oper{Name: x.Name}
	for _, d := range x.Does {
		y := api.Doing{Kind: d.Kind, Of: -1, N: d.N}
		switch d.Kind {
		case api.EffAdd, api.EffDrop:
			y.Of = place(l, api.DeclSet, d.Name)
		case api.EffUp, api.EffDown:
			y.Of = place(l, api.DeclCount, d.Name)
		case api.EffSet:
			y.Of = place(l, api.DeclNote, d.Name)
		}
		o.Does = append(o.Does, y)
	}
	return o
}

// said are the rules that lines say, whether they may be or not.
func said(l []api.Decl) api.Rules {
	var r api.Rules
	for _, x := range l {
		switch x.Kind {
		case api.DeclSet:
			r.Sets = append(r.Sets, x.Name)
		case api.DeclCount:
			r.Counts = append(r.Counts, x.Name)
		case api.DeclNote:
			r.Notes = append(r.Notes, x.Name)
		case api.DeclOp:
			r.Opers = append(r.Opers, asOper(l, x))
		default:
			r.Clauses = append(r.Clauses, asClause(l, x))
		}
	}
	return r
}

// thereIs tells whether some line names a thing of a sort so.
func thereIs(l []api.Decl, kind int, name string) bool { return place(l, kind, name) >= 0 }

// namesOne tells whether a line names a thing or an operation.
func namesOne(x api.Decl) bool {
	return slices.Contains([]int{api.DeclSet, api.DeclCount, api.DeclNote, api.DeclOp}, x.Kind)
}

// isTooMany tells whether there are as many lines like one as there may be, ahead of it.
func isTooMany(ahead []api.Decl, x api.Decl) bool {
	n := 0
	for _, y := range ahead {
		if y.Kind == x.Kind || !namesOne(x) && !namesOne(y) {
			n++
		}
	}
	most := map[int]int{api.DeclSet: 6, api.DeclCount: 4, api.DeclNote: 3, api.DeclOp: 16}
	if !namesOne(x) {
		return n >= 12
	}
	return n >= most[x.Kind]
}

// isClause tells whether a line says a clause that may be, but for how many there are.
func isClause(all, ahead []api.Decl, x api.Decl) bool {
	set, count, other := thereIs(all, api.DeclSet, x.Name), thereIs(all, api.DeclCount, x.Name), thereIs(all, api.DeclSet, x.Other)
	switch x.Kind {
	case api.DeclRef, api.DeclBoth:
		return set && other && x.Name != x.Other && x.N == 0
	case api.DeclNeeds:
		return count && other && x.N == 0
	case api.DeclLimit:
		return set && x.N >= 0 && x.N <= 1000 && !x.Strict
	case api.DeclMost:
		return count && x.N >= 0 && x.N <= 1000 && !x.Strict
	case api.DeclLeast:
		return count && x.N >= -1000 && x.N <= 0 && !thereIs(ahead, api.DeclLeast, x.Name)
	}
	return false
}

// areDeeds tells whether an operation may do these, by the lines that there are.
func areDeeds(all []api.Decl, l []api.Deed) bool {
	seen := map[string]int{}
	for _, d := range l {
		var is bool
		switch d.Kind {
		case api.EffAdd, api.EffDrop:
			is = thereIs(all, api.DeclSet, d.Name) && d.N == 0
			seen["set "+d.Name]++
		case api.EffUp, api.EffDown:
			is = thereIs(all, api.DeclCount, d.Name) && d.N >= 1 && d.N <= 1000
			seen["count "+d.Name]++
		case api.EffSet:
			is = thereIs(all, api.DeclNote, d.Name) && d.N == 0
			seen["note "+d.Name]++
		}
		if !is {
			return false
		}
	}
	return len(l) >= 1 && len(l) <= 16 && len(seen) == len(l)
}

// isWrong tells whether there is something in a line, or by it and those ahead, that may not be.
func isWrong(all []api.Decl, i int) bool {
	ahead, x := all[:i], all[i]
	if isTooMany(ahead, x) {
		return true
	}
	if !namesOne(x) {
		return !isClause(all, ahead, x)
	}
	twice := slices.ContainsFunc(ahead, func(y api.Decl) bool { return namesOne(y) && y.Name == x.Name })
	return twice || !isName(x.Name) || x.Kind == api.DeclOp && !areDeeds(all, x.Does)
}

// asPromised is So1's answer of lines, by its words.
func asPromised(l []api.Decl) (api.Rules, int, api.Errno) {
	for i, x := range l {
		if isWrong(l, i) {
			return api.Rules{}, x.Line, api.ErrSort
		}
	}
	return said(l), 0, api.OK
}

// holdPromised tells whether the answer of lines is as So1 says, and which error it has.
func holdPromised(t *testing.T, l []api.Decl) api.Errno {
	t.Helper()
	want, line, e := asPromised(l)
	if e == api.OK {
		hold(t, l, want)
	} else {
		refuse(t, l, line)
	}
	return e
}

// lines are the lines of a text that has some.
func lines(t *testing.T, s string) []api.Decl {
	t.Helper()
	l, _, e := parse.Lines(s)
	if e != api.OK {
		t.Fatalf("%q: no lines", s)
	}
	return l
}

// few are lines of all kinds, most of which may stand together.
func few(t *testing.T) []api.Decl {
	return lines(t, `set a
set b
count c
note d
set c
count a
op a: add b
op x: add a, up c 1
op x: put d
rule ref a b
rule strict both b a
rule ref a a
rule needs c a
rule needs a c
rule limit a 3
rule limit a -1
rule strict limit b 3
rule most c 0
rule most a 0
rule least c 0
rule strict least c -1000
rule least c 1
op y: add a, drop a
op z: down c 1001
op b: drop b`)
}

// eachList goes through all lists of so many of some lines, or fewer.
func eachList(l, some []api.Decl, most int, see func([]api.Decl)) {
	see(l)
	if most == 0 {
		return
	}
	for _, x := range some {
		eachList(append(slices.Clip(l), x), some, most-1, see)
	}
}

// numbered are lines with the numbers of their places, or with others that do not rise.
func numbered(l []api.Decl, line func(int) int) []api.Decl {
	l = slices.Clone(l)
	for i := range l {
		l[i].Line = line(i)
	}
	return l
}

// plus1 is the number of a place, from 1 on.
func plus1(i int) int { return i + 1 }

// So1: all lists of few lines are told as its words say.
func TestAllFewLines(t *testing.T) {
	told := map[api.Errno]int{}
	see := func(l []api.Decl) { told[holdPromised(t, numbered(l, plus1))]++ }
	eachList(nil, few(t), 3, see)
	eachList(lines(t, "set a\nset b\ncount c\nnote d"), few(t), 2, see)
	eachList(lines(t, "rule limit a 1\nop o: put d, up c 3\nset a\ncount c"), few(t), 2, see)
	if told[api.OK] < 300 || told[api.ErrSort] < 3000 {
		t.Errorf("only %v", told)
	}
}

// dice are random choices.
type dice struct{ *rand.Rand }

// one is one of some texts.
func (d dice) one(l ...string) string { return l[d.Intn(len(l))] }

// seldom tells true once in a while.
func (d dice) seldom() bool { return d.Intn(60) == 0 }

// name is one of a sort's names, but seldom any.
func (d dice) name(l ...string) string {
	if d.seldom() {
		return d.one("s1", "c1", "n1", "o1", "lost", "set", "", "A")
	}
	return d.one(l...)
}

// number is one within bounds, but seldom one beyond.
func (d dice) number(least, most int) int {
	if d.seldom() {
		return d.Intn(4000) - 2000
	}
	return least + d.Intn(most-least+1)
}

// deed is a random deed, with a number where there is one.
func (d dice) deed() api.Deed {
	x := api.Deed{Kind: 1 + d.Intn(4), N: d.number(0, 0)}
	if d.Intn(6) == 0 {
		x.Kind = api.EffSet
	}
	if d.seldom() {
		x.Kind = d.Intn(9) - 1
	}
	switch x.Kind {
	case api.EffUp, api.EffDown:
		x.Name, x.N = d.name("c1", "c2", "c3"), d.number(1, 1000)
	case api.EffSet:
		x.Name = d.name("n1", "n2")
	default:
		x.Name = d.name("s1", "s2", "s3", "s4")
	}
	return x
}

// clause is a random clause, or what is none.
func (d dice) clause() api.Decl {
	x := api.Decl{Kind: api.DeclRef + d.Intn(6), N: d.number(0, 0), Strict: d.seldom()}
	if d.seldom() {
		x.Kind = d.Intn(14) - 1
	}
	x.Name, x.Other = d.name("s1", "s2"), d.name("s3", "s4")
	switch x.Kind {
	case api.DeclRef, api.DeclBoth:
		x.Strict = d.Intn(2) == 0
	case api.DeclNeeds:
		x.Name, x.Strict = d.name("c1", "c2"), d.Intn(2) == 0
	case api.DeclLimit:
		x.Other, x.N = "", d.number(0, 1000)
	case api.DeclMost:
		x.Name, x.Other, x.N = d.name("c1", "c2", "c3"), "", d.number(0, 1000)
	case api.DeclLeast:
		x.Name, x.Other, x.N, x.Strict = d.name("c1", "c2", "c3"), "", d.number(-1000, 0), d.Intn(2) == 0
	}
	return x
}

// oper is a random operation.
func (d dice) oper(i int) api.Decl {
	x := api.Decl{Kind: api.DeclOp, Name: d.name("o" + string(rune('a'+i%26)))}
	many := 1 + d.Intn(3)
	if d.seldom() {
		many = d.Intn(18)
	}
	for range many {
		x.Does = append(x.Does, d.deed())
	}
	return x
}

// lines are random lines, in a random order, of which most often all may be, but for a few.
func (d dice) lines(clauses, opers int) []api.Decl {
	var l []api.Decl
	for _, s := range []string{"s1", "s2", "s3", "s4", "c1", "c2", "c3", "n1", "n2"} {
		kind := map[byte]int{'s': api.DeclSet, 'c': api.DeclCount, 'n': api.DeclNote}[s[0]]
		if !d.seldom() {
			l = append(l, api.Decl{Kind: kind, Name: d.name(s)})
		}
	}
	for range d.Intn(clauses + 1) {
		l = append(l, d.clause())
	}
	for i := range d.Intn(opers + 1) {
		l = append(l, d.oper(i))
	}
	d.Shuffle(len(l), func(i, j int) { l[i], l[j] = l[j], l[i] })
	return l
}

// So1: random lines, in any order, are told so; so is which one of several that are wrong. Lines' numbers are told as they are given, rising or not.
func TestRandomLines(t *testing.T) {
	d := dice{rand.New(rand.NewSource(16))}
	told := map[api.Errno]int{}
	for range 30000 {
		l := d.lines(3, 2)
		told[holdPromised(t, numbered(l, plus1))]++
		told[holdPromised(t, numbered(l, func(i int) int { return 100 - 7*i }))]++
	}
	for range 10000 {
		told[holdPromised(t, numbered(d.lines(16, 20), plus1))]++
	}
	if told[api.OK] < 5000 || told[api.ErrSort] < 5000 {
		t.Errorf("only %v", told)
	}
}

// So1: random rules, most of which may be but for a few changes, are checked as the words say.
func TestRandomRules(t *testing.T) {
	d := dice{rand.New(rand.NewSource(61))}
	told := map[bool]int{}
	for range 40000 {
		l := d.lines(4, 3)
		r := said(l)
		if d.Intn(3) == 0 {
			r = whole()
			d.spoil(&r)
		}
		want := mayBe(r)
		may(t, want, r)
		told[want]++
	}
	if told[true] < 5000 || told[false] < 5000 {
		t.Errorf("only %v", told)
	}
}

// spoil turns something of whole rules.
func (d dice) spoil(r *api.Rules) {
	n := d.Intn(2500) - 1250
	if d.Intn(2) == 0 {
		n = d.Intn(9) - 1
	}
	c, o := &r.Clauses[d.Intn(12)], &r.Opers[d.Intn(16)]
	does := &o.Does[d.Intn(13)]
	switch d.Intn(9) {
	case 0:
		c.Kind = n
	case 1:
		c.Strict = !c.Strict
	case 2:
		c.A = n
	case 3:
		c.B = n
	case 4:
		c.N = n
	case 5:
		does.Kind = n
	case 6:
		does.Of = n
	case 7:
		does.N = n
	case 8:
		o.Name = d.name("o1", "o2", "new", o.Name)
	}
}

// So2: what Of tells may be, of random lines and of all lists of few.
func TestWhatOfTellsMayBe(t *testing.T) {
	d := dice{rand.New(rand.NewSource(2))}
	right := 0
	for range 30000 {
		r, _, e := Of(d.lines(6, 4))
		if e == api.OK {
			right++
			may(t, true, r)
		}
	}
	if right < 3000 {
		t.Errorf("only %d", right)
	}
	eachList(nil, few(t), 3, func(l []api.Decl) {
		if r, _, e := Of(l); e == api.OK {
			may(t, true, r)
		}
	})
}
