package show

import (
	"fmt"
	"math"
	"slices"
	"strings"
	"testing"

	"huckster/api"
	"huckster/sorts"
)

// names are so many names that begin with a letter.
func names(letter string, n int) []string {
	var l []string
	for i := range n {
		l = append(l, fmt.Sprintf("%s%d", letter, i))
	}
	return l
}

// some are rules of so many sets, counts and notes, with neither clauses nor operations.
func some(sets, counts, notes int) api.Rules {
	return api.Rules{Sets: names("s", sets), Counts: names("c", counts), Notes: names("n", notes)}
}

// with are rules with clauses, beside what they have.
func with(r api.Rules, l ...api.Clause) api.Rules {
	r.Clauses = slices.Concat(r.Clauses, l)
	return r
}

// doing are rules with an operation that does some things, beside what they have.
func doing(r api.Rules, l ...api.Doing) api.Rules {
	r.Opers = append(slices.Clone(r.Opers), api.Oper{Name: fmt.Sprintf("o%d", len(r.Opers)), Does: slices.Clone(l)})
	return r
}

// deedsOfAll are deeds to each of all 13 things that there may be.
func deedsOfAll() []api.Doing {
	return []api.Doing{
		{Kind: api.EffAdd}, {Kind: api.EffDrop, Of: 1}, {Kind: api.EffAdd, Of: 2}, {Kind: api.EffDrop, Of: 3}, {Kind: api.EffAdd, Of: 4}, {Kind: api.EffDrop, Of: 5},
		{Kind: api.EffUp, N: 1}, {Kind: api.EffDown, Of: 1, N: 1000}, {Kind: api.EffUp, Of: 2, N: 1000}, {Kind: api.EffDown, Of: 3, N: 1},
		{Kind: api.EffSet}, {Kind: api.EffSet, Of: 1}, {Kind: api.EffSet, Of: 2},
	}
}

// full are rules with all things and clauses that there may be, and so many operations that each do something to all things.
func full(opers int) api.Rules {
	r := with(some(6, 4, 3),
		api.Clause{Kind: api.DeclRef, Strict: true, A: 0, B: 5},
		api.Clause{Kind: api.DeclRef, A: 5, B: 0},
		api.Clause{Kind: api.DeclBoth, Strict: true, A: 1, B: 2},
		api.Clause{Kind: api.DeclBoth, A: 4, B: 3},
		api.Clause{Kind: api.DeclNeeds, Strict: true, A: 3, B: 5},
		api.Clause{Kind: api.DeclNeeds, A: 0, B: 0},
		api.Clause{Kind: api.DeclLimit, A: 5, N: 1000},
		api.Clause{Kind: api.DeclMost, A: 3, N: 1000},
		api.Clause{Kind: api.DeclLeast, Strict: true, A: 0},
		api.Clause{Kind: api.DeclLeast, Strict: true, A: 1, N: -1000},
		api.Clause{Kind: api.DeclLeast, Strict: true, A: 2, N: -1},
		api.Clause{Kind: api.DeclLeast, Strict: true, A: 3, N: -999},
	)
	for range opers {
		r = doing(r, deedsOfAll()...)
	}
	return r
}

// short is the beginning of what something is.
func short(x any) string {
	s := fmt.Sprintf("%+v", x)
	if len(s) > 600 {
		s = s[:600] + " and so on"
	}
	return s
}

// isText tells whether rules have a text.
func isText(t *testing.T, r api.Rules, want string) {
	t.Helper()
	s, e := Text(r)
	if s != want || e != api.OK {
		t.Errorf("%s: got %q, %d, want %q", short(r), s, e, want)
	}
}

// isNone tells whether rules have no text by an error, and no lines, if it is ErrArg.
func isNone(t *testing.T, r api.Rules, want api.Errno) {
	t.Helper()
	s, e := Text(r)
	if s != "" || e != want {
		t.Errorf("%s: got %q, %d, want nothing, %d", short(r), s, e, want)
	}
	if want != api.ErrArg {
		return
	}
	for _, i := range []int{math.MinInt, -1, 0, 1, 2, 11, 12, 15, 16, math.MaxInt} {
		if c, o := Clause(r, i), Oper(r, i); c != "" || o != "" {
			t.Errorf("%s: got the lines %q and %q at %d, want none", short(r), c, o, i)
		}
	}
}

// isRead tells whether a text is read as rules (Sh2), and their text is the same.
func isRead(t *testing.T, r api.Rules) {
	t.Helper()
	s, e := Text(r)
	if e != api.OK {
		t.Errorf("%s: got %d", short(r), e)
		return
	}
	back, line, e := sorts.Read(s)
	if e != api.OK || line != 0 || !sorts.Same(back, r) {
		t.Errorf("%s: its text %q is read as %s, %d, %d", short(r), s, short(back), line, e)
	}
	isText(t, back, s)
}

// Sh1: the chapter's example, and that of the stage.
func TestExamples(t *testing.T) {
	r := api.Rules{Sets: []string{"a"}, Clauses: []api.Clause{{Kind: api.DeclLimit, N: 3}}}
	isText(t, r, "set a\nrule limit a 3\n")
	isRead(t, r)
	r = api.Rules{
		Sets:    []string{"a", "b"},
		Clauses: []api.Clause{{Kind: api.DeclRef, Strict: true, B: 1}},
		Opers:   []api.Oper{{Name: "x", Does: []api.Doing{{Kind: api.EffAdd}, {Kind: api.EffDrop, Of: 1}}}},
	}
	isText(t, r, "set a\nset b\nrule strict ref a b\nop x: add a, drop b\n")
	isRead(t, r)
}

// Sh1: empty rules have an empty text, of no lists as of empty ones.
func TestEmptyRules(t *testing.T) {
	isText(t, api.Rules{}, "")
	isText(t, api.Rules{Sets: []string{}, Counts: []string{}, Notes: []string{}, Clauses: []api.Clause{}, Opers: []api.Oper{}}, "")
	isRead(t, api.Rules{})
}

// Sh1: sets stand ahead of counts, and these ahead of notes, each in its list's order, not its letters'.
func TestThings(t *testing.T) {
	isText(t, api.Rules{Sets: []string{"b", "a"}}, "set b\nset a\n")
	isText(t, api.Rules{Counts: []string{"b", "a"}}, "count b\ncount a\n")
	isText(t, api.Rules{Notes: []string{"b", "a"}}, "note b\nnote a\n")
	isText(t, api.Rules{Notes: []string{"a"}, Counts: []string{"b"}}, "count b\nnote a\n")
	isText(t, api.Rules{Notes: []string{"a"}, Sets: []string{"b"}}, "set b\nnote a\n")
	isText(t, api.Rules{Counts: []string{"a"}, Sets: []string{"b"}}, "set b\ncount a\n")
	isText(t, api.Rules{Notes: []string{"a", "d"}, Counts: []string{"b", "e"}, Sets: []string{"c", "f"}}, "set c\nset f\ncount b\ncount e\nnote a\nnote d\n")
	isText(t, some(6, 4, 3), "set s0\nset s1\nset s2\nset s3\nset s4\nset s5\ncount c0\ncount c1\ncount c2\ncount c3\nnote n0\nnote n1\nnote n2\n")
	for sets := range 7 {
		for counts := range 5 {
			for notes := range 4 {
				isRead(t, some(sets, counts, notes))
			}
		}
	}
}

// Sh1: each kind of clause, Strict and not, in the order of the list; N at its bounds, and nought; `strict` is not said of DeclLeast.
func TestClauses(t *testing.T) {
	all := []struct {
		clause api.Clause
		line   string
	}{
		{api.Clause{Kind: api.DeclRef, A: 0, B: 1}, "rule ref s0 s1"},
		{api.Clause{Kind: api.DeclRef, A: 1, B: 0}, "rule ref s1 s0"},
		{api.Clause{Kind: api.DeclRef, A: 5, B: 2, Strict: true}, "rule strict ref s5 s2"},
		{api.Clause{Kind: api.DeclBoth, A: 0, B: 5}, "rule both s0 s5"},
		{api.Clause{Kind: api.DeclBoth, A: 2, B: 1, Strict: true}, "rule strict both s2 s1"},
		{api.Clause{Kind: api.DeclNeeds, A: 0, B: 0}, "rule needs c0 s0"},
		{api.Clause{Kind: api.DeclNeeds, A: 3, B: 5, Strict: true}, "rule strict needs c3 s5"},
		{api.Clause{Kind: api.DeclNeeds, A: 2, B: 1}, "rule needs c2 s1"},
		{api.Clause{Kind: api.DeclLimit, A: 0}, "rule limit s0 0"},
		{api.Clause{Kind: api.DeclLimit, A: 5, N: 1}, "rule limit s5 1"},
		{api.Clause{Kind: api.DeclLimit, A: 1, N: 1000}, "rule limit s1 1000"},
		{api.Clause{Kind: api.DeclMost, A: 0}, "rule most c0 0"},
		{api.Clause{Kind: api.DeclMost, A: 3, N: 10}, "rule most c3 10"},
		{api.Clause{Kind: api.DeclMost, A: 1, N: 1000}, "rule most c1 1000"},
		{api.Clause{Kind: api.DeclLeast, A: 0, Strict: true}, "rule least c0 0"},
		{api.Clause{Kind: api.DeclLeast, A: 3, N: -1, Strict: true}, "rule least c3 -1"},
		{api.Clause{Kind: api.DeclLeast, A: 2, N: -999, Strict: true}, "rule least c2 -999"},
		{api.Clause{Kind: api.DeclLeast, A: 1, N: -1000, Strict: true}, "rule least c1 -1000"},
	}
	head, _ := Text(some(6, 4, 3))
	for i, x := range all {
		r := with(some(6, 4, 3), x.clause)
		isText(t, r, head+x.line+"\n")
		isRead(t, r)
		if got := Clause(r, 0); got != x.line {
			t.Errorf("got the line %q, want %q", got, x.line)
		}
		for j, y := range all {
			if x.clause.Kind == api.DeclLeast && y.clause.Kind == api.DeclLeast && (i == j || x.clause.A == y.clause.A) {
				continue
			}
			r = with(some(6, 4, 3), x.clause, y.clause)
			isText(t, r, head+x.line+"\n"+y.line+"\n")
			isRead(t, r)
		}
	}
}

// Sh1: each kind of deed, with its number at its bounds, and without one.
func TestDeeds(t *testing.T) {
	all := []struct {
		does api.Doing
		said string
	}{
		{api.Doing{Kind: api.EffAdd}, "add s0"},
		{api.Doing{Kind: api.EffAdd, Of: 4}, "add s4"},
		{api.Doing{Kind: api.EffDrop, Of: 1}, "drop s1"},
		{api.Doing{Kind: api.EffDrop, Of: 5}, "drop s5"},
		{api.Doing{Kind: api.EffUp, N: 1}, "up c0 1"},
		{api.Doing{Kind: api.EffUp, Of: 3, N: 1000}, "up c3 1000"},
		{api.Doing{Kind: api.EffDown, Of: 1, N: 1}, "down c1 1"},
		{api.Doing{Kind: api.EffDown, Of: 2, N: 1000}, "down c2 1000"},
		{api.Doing{Kind: api.EffSet}, "put n0"},
		{api.Doing{Kind: api.EffSet, Of: 2}, "put n2"},
	}
	head, _ := Text(some(6, 4, 3))
	for i, x := range all {
		r := doing(some(6, 4, 3), x.does)
		isText(t, r, head+"op o0: "+x.said+"\n")
		isRead(t, r)
		if got := Oper(r, 0); got != "op o0: "+x.said {
			t.Errorf("got the line %q, want that of %s", got, x.said)
		}
		for j, y := range all {
			r = doing(doing(some(6, 4, 3), x.does), y.does)
			isText(t, r, head+"op o0: "+x.said+"\nop o1: "+y.said+"\n")
			isRead(t, r)
			if i != j {
				r = doing(some(6, 4, 3), x.does, y.does)
				isText(t, r, head+"op o0: "+x.said+", "+y.said+"\n")
				isRead(t, r)
			}
		}
	}
}

// Sh1: an operation of as many deeds as there are things; one of sixteen may not be, as there are no more things.
func TestManyDeeds(t *testing.T) {
	head, _ := Text(some(6, 4, 3))
	r := doing(some(6, 4, 3), deedsOfAll()...)
	isText(t, r, head+"op o0: add s0, drop s1, add s2, drop s3, add s4, drop s5, up c0 1, down c1 1000, up c2 1000, down c3 1, put n0, put n1, put n2\n")
	isRead(t, r)
	backwards := deedsOfAll()
	slices.Reverse(backwards)
	r = doing(some(6, 4, 3), backwards...)
	isText(t, r, head+"op o0: put n2, put n1, put n0, down c3 1, up c2 1000, down c1 1000, up c0 1, drop s5, add s4, drop s3, add s2, drop s1, add s0\n")
	isRead(t, r)
	isNone(t, doing(some(6, 4, 3), append(deedsOfAll(), deedsOfAll()[:3]...)...), api.ErrArg)
	isNone(t, doing(some(6, 4, 3), append(deedsOfAll(), deedsOfAll()[:4]...)...), api.ErrArg)
	isNone(t, doing(some(6, 4, 3)), api.ErrArg)
}

// Sh1: names of one sign and of sixteen.
func TestNames(t *testing.T) {
	long := func(s string) string { return strings.Repeat(s, 16) }
	r := api.Rules{
		Sets: []string{"a", long("a"), "z" + long("9")[1:]}, Counts: []string{"b", long("b")}, Notes: []string{"c", long("c")},
		Clauses: []api.Clause{{Kind: api.DeclRef, A: 0, B: 1}, {Kind: api.DeclBoth, A: 2, B: 0}, {Kind: api.DeclNeeds, A: 1, B: 2}, {Kind: api.DeclMost, A: 0, N: 7}},
		Opers: []api.Oper{
			{Name: "d", Does: []api.Doing{{Kind: api.EffAdd}, {Kind: api.EffSet, Of: 1}}},
			{Name: long("d"), Does: []api.Doing{{Kind: api.EffDrop, Of: 1}, {Kind: api.EffUp, Of: 1, N: 5}, {Kind: api.EffSet}}},
		},
	}
	isText(t, r, `set a
set aaaaaaaaaaaaaaaa
set z999999999999999
count b
count bbbbbbbbbbbbbbbb
note c
note cccccccccccccccc
rule ref a aaaaaaaaaaaaaaaa
rule both z999999999999999 a
rule needs bbbbbbbbbbbbbbbb z999999999999999
rule most b 7
op d: add a, put cccccccccccccccc
op dddddddddddddddd: drop aaaaaaaaaaaaaaaa, up bbbbbbbbbbbbbbbb 5, put c
`)
	isRead(t, r)
	r.Opers[1].Name += "d"
	isNone(t, r, api.ErrArg)
}

// Sh1: rules with as much as there may be have a line for each, in the order that the words say.
func TestFullRules(t *testing.T) {
	r := full(1)
	r.Opers[0].Does = r.Opers[0].Does[5:8]
	r = doing(r, r.Opers[0].Does[1])
	isText(t, r, `set s0
set s1
set s2
set s3
set s4
set s5
count c0
count c1
count c2
count c3
note n0
note n1
note n2
rule strict ref s0 s5
rule ref s5 s0
rule strict both s1 s2
rule both s4 s3
rule strict needs c3 s5
rule needs c0 s0
rule limit s5 1000
rule most c3 1000
rule least c0 0
rule least c1 -1000
rule least c2 -1
rule least c3 -999
op o0: drop s5, up c0 1, down c1 1000
op o1: up c0 1
`)
	isRead(t, r)
	for n := range 15 {
		isRead(t, full(n))
	}
}

// R3: rules are not written to, nor is what stands behind their lists.
func TestWritesNothing(t *testing.T) {
	for range 2 {
		r := full(16)
		behind := slices.Clone(r.Sets)
		r.Sets = r.Sets[:5]
		isNone(t, r, api.ErrArg)
		r.Sets = r.Sets[:6]
		Text(r)
		Clause(r, 3)
		Oper(r, 3)
		if !sorts.Same(r, full(16)) || !slices.Equal(r.Sets, behind) {
			t.Error("rules were written to")
		}
	}
}
