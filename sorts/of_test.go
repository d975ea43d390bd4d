package sorts

import (
	"fmt"
	"math"
	"math/rand"
	"slices"
	"strings"
	"testing"

	"huckster/api"
	"huckster/parse"
)

// none tells whether rules are nothing at all.
func none(r api.Rules) bool {
	return len(r.Sets)+len(r.Counts)+len(r.Notes)+len(r.Clauses)+len(r.Opers) == 0
}

// hold tells whether the rules of lines are those that are asked for.
func hold(t *testing.T, l []api.Decl, want api.Rules) {
	t.Helper()
	r, at, e := Of(l)
	if e != api.OK || at != 0 || !Same(r, want) {
		t.Errorf("%s: got %s, %d, %d, want %s", short(l), short(r), at, e, short(want))
	}
	if Check(r) != api.OK {
		t.Errorf("%s: got %s, which may not be", short(l), short(r))
	}
}

// refuse tells whether lines have no rules, by the line that is asked for.
func refuse(t *testing.T, l []api.Decl, line int) {
	t.Helper()
	r, at, e := Of(l)
	if e != api.ErrSort || at != line || !none(r) {
		t.Errorf("%s: got %s, %d, %d, want none, %d, %d", short(l), short(r), at, e, line, api.ErrSort)
	}
}

// holdText tells whether the rules of a text are those that are asked for.
func holdText(t *testing.T, s string, want api.Rules) {
	t.Helper()
	r, at, e := Read(s)
	if e != api.OK || at != 0 || !Same(r, want) {
		t.Errorf("%q: got %s, %d, %d, want %s", s, short(r), at, e, short(want))
	}
	hold(t, lines(t, s), want)
}

// refuseText tells whether a text has no rules, by an error at a line.
func refuseText(t *testing.T, s string, line int, want api.Errno) {
	t.Helper()
	r, at, e := Read(s)
	if e != want || at != line || !none(r) {
		t.Errorf("%s: got %s, %d, %d, want none, %d, %d", short(s), short(r), at, e, line, want)
	}
}

// wrong tells whether a line of a text, whose lines are right but for their rules, is the one that is told.
func wrong(t *testing.T, s string, line int) {
	t.Helper()
	refuseText(t, s, line, api.ErrSort)
	refuse(t, lines(t, s), line)
}

// So1: the chapter's example.
func TestExample(t *testing.T) {
	holdText(t, "set a\nrule limit a 3", api.Rules{Sets: []string{"a"}, Clauses: []api.Clause{{Kind: api.DeclLimit, A: 0, N: 3}}})
}

// So1: no lines are rules of nothing.
func TestOfNoLines(t *testing.T) {
	hold(t, nil, api.Rules{})
	hold(t, []api.Decl{}, api.Rules{})
	for _, s := range []string{"", " ", "\n", "# set a", "\n\n\t\n#\n"} {
		holdText(t, s, api.Rules{})
	}
}

// kinds is a text with a line of each kind, and of each kind of deed.
const kinds = `note n0
set s0

rule ref s0 s1
rule strict ref s1 s0
count c0
rule both s1 s0
rule strict both s0 s1
rule needs c1 s0
rule strict needs c0 s1
op x: add s1, drop s0, up c1 1000, down c0 1, put n0
rule limit s1 0
rule limit s0 1000
set s1
rule most c1 0
rule most c0 1000
rule least c1 0
count c1
op y: put n1
rule strict least c0 -1000
note n1`

// So1: things have the numbers in which lines name them, wherever what uses them stands; clauses and operations stand as their lines do.
func TestOfEachKind(t *testing.T) {
	holdText(t, kinds, api.Rules{
		Sets:   []string{"s0", "s1"},
		Counts: []string{"c0", "c1"},
		Notes:  []string{"n0", "n1"},
		Clauses: []api.Clause{
			{Kind: api.DeclRef, A: 0, B: 1},
			{Kind: api.DeclRef, Strict: true, A: 1, B: 0},
			{Kind: api.DeclBoth, A: 1, B: 0},
			{Kind: api.DeclBoth, Strict: true, A: 0, B: 1},
			{Kind: api.DeclNeeds, A: 1, B: 0},
			{Kind: api.DeclNeeds, Strict: true, A: 0, B: 1},
			{Kind: api.DeclLimit, A: 1},
			{Kind: api.DeclLimit, A: 0, N: 1000},
			{Kind: api.DeclMost, A: 1},
			{Kind: api.DeclMost, A: 0, N: 1000},
			{Kind: api.DeclLeast, Strict: true, A: 1},
			{Kind: api.DeclLeast, Strict: true, A: 0, N: -1000},
		},
		Opers: []api.Oper{
			{Name: "x", Does: []api.Doing{{Kind: api.EffAdd, Of: 1}, {Kind: api.EffDrop, Of: 0}, {Kind: api.EffUp, Of: 1, N: 1000}, {Kind: api.EffDown, Of: 0, N: 1}, {Kind: api.EffSet, Of: 0}}},
			{Name: "y", Does: []api.Doing{{Kind: api.EffSet, Of: 1}}},
		},
	})
}

// So1: names that do not rise have the numbers in which they stand, not those by their letters.
func TestNumbersAreInTheOrderOfLines(t *testing.T) {
	holdText(t, "rule ref a z\nset z\nset m\nset a\nop q: add m, add a\nop b: drop z", api.Rules{
		Sets:    []string{"z", "m", "a"},
		Clauses: []api.Clause{{Kind: api.DeclRef, A: 2, B: 0}},
		Opers:   []api.Oper{{Name: "q", Does: []api.Doing{{Kind: api.EffAdd, Of: 1}, {Kind: api.EffAdd, Of: 2}}}, {Name: "b", Does: []api.Doing{{Kind: api.EffDrop, Of: 0}}}},
	})
}

// orders goes through all orders of lines.
func orders(l []string, see func([]string)) {
	var from func(int)
	from = func(i int) {
		if i == len(l) {
			see(l)
			return
		}
		for j := i; j < len(l); j++ {
			l[i], l[j] = l[j], l[i]
			from(i + 1)
			l[i], l[j] = l[j], l[i]
		}
	}
	from(0)
}

// So1: lines may stand in each order: what is named is found, whether it stands ahead or behind.
func TestEachOrder(t *testing.T) {
	orders([]string{"set a", "set b", "count c", "note d", "rule needs c b", "op x: drop a, put d"}, func(l []string) {
		var sets []string
		for _, s := range l {
			if name, is := strings.CutPrefix(s, "set "); is {
				sets = append(sets, name)
			}
		}
		holdText(t, strings.Join(l, "\n"), api.Rules{
			Sets: sets, Counts: []string{"c"}, Notes: []string{"d"},
			Clauses: []api.Clause{{Kind: api.DeclNeeds, A: 0, B: slices.Index(sets, "b")}},
			Opers:   []api.Oper{{Name: "x", Does: []api.Doing{{Kind: api.EffDrop, Of: slices.Index(sets, "a")}, {Kind: api.EffSet}}}},
		})
	})
}

// So1: of two lines that name the same the later one is told, whatever they name.
func TestNamesTwice(t *testing.T) {
	named := []string{"set a", "count a", "note a", "op a: add s"}
	for _, first := range named {
		for _, second := range named {
			wrong(t, "set s\n"+first+"\n"+second, 3)
			wrong(t, first+"\n\n"+second+"\nset s", 3)
			wrong(t, first+"\nset b\n"+second+"\nset s\n"+second, 3)
			wrong(t, "set s\nset b\n"+first+"\nrule limit s 3\n"+second+"\nset b", 5)
		}
	}
	// A thing and an operation may share a name no more than two things, though a thing is never looked for among operations.
	wrong(t, "op a: add a\nset a", 2)
	wrong(t, "set a\nop a: add a", 2)
	wrong(t, "rule limit a 3\nop a: add a\nset a", 3)
	wrong(t, "set a\nset a\nrule limit a 3", 2)
	wrong(t, "rule limit a 3\nset a\nset a", 3)
}

// So1: where two lines name the same, what uses the name is no fault, if there is such a thing as must be there among them.
func TestNamesOfTwoSorts(t *testing.T) {
	for _, both := range []string{"set a\ncount a", "count a\nset a"} {
		wrong(t, "rule limit a 3\n"+both, 3)
		wrong(t, "rule most a 3\n"+both, 3)
		wrong(t, "op x: add a\n"+both, 3)
		wrong(t, "op x: up a 1\n"+both, 3)
		wrong(t, "op x: put a\n"+both, 1)
		wrong(t, both+"\nop x: put a\n", 2)
	}
}

// So1: the line whose name may not be is told; a line can be given such a one, though no text can.
func TestNamesThatMayNotBe(t *testing.T) {
	for _, name := range noNames() {
		for _, kind := range []int{api.DeclSet, api.DeclCount, api.DeclNote, api.DeclOp} {
			x := api.Decl{Kind: kind, Name: name, Line: 7}
			if kind == api.DeclOp {
				x.Does = []api.Deed{{Kind: api.EffAdd, Name: "a"}}
			}
			a := api.Decl{Kind: api.DeclSet, Name: "a", Line: 3}
			refuse(t, []api.Decl{a, x}, 7)
			refuse(t, []api.Decl{x, a}, 7)
			refuse(t, []api.Decl{a, x, a, x}, 7)
		}
		// What uses the name stands ahead, and there is such a thing: its own line is told.
		limit := api.Decl{Kind: api.DeclLimit, Name: name, Line: 1}
		refuse(t, []api.Decl{limit, {Kind: api.DeclSet, Name: name, Line: 2}}, 2)
		refuse(t, []api.Decl{limit, {Kind: api.DeclCount, Name: name, Line: 2}}, 1)
	}
	for _, name := range oddNames() {
		hold(t, []api.Decl{{Kind: api.DeclLimit, Name: name}, {Kind: api.DeclSet, Name: name}}, api.Rules{Sets: []string{name}, Clauses: []api.Clause{{Kind: api.DeclLimit}}})
		x := api.Decl{Kind: api.DeclOp, Name: name, Does: []api.Deed{{Kind: api.EffSet, Name: "n"}}}
		hold(t, []api.Decl{x, {Kind: api.DeclNote, Name: "n"}}, api.Rules{Notes: []string{"n"}, Opers: []api.Oper{{Name: name, Does: []api.Doing{{Kind: api.EffSet}}}}})
	}
}

// So1: the line with a name of no thing, or of one of another sort, is told.
func TestNamesOfOtherSorts(t *testing.T) {
	right := map[string]string{
		"rule ref %s t": "s", "rule ref t %s": "s", "rule strict ref %s t": "s", "rule both %s t": "s", "rule both t %s": "s", "rule strict both t %s": "s",
		"rule needs %s s": "c", "rule needs c %s": "s", "rule strict needs %s s": "c", "rule strict needs c %s": "s",
		"rule limit %s 3": "s", "rule most %s 3": "c", "rule least %s -3": "c", "rule strict least %s -3": "c",
		"op x: add %s": "s", "op x: drop %s": "s", "op x: up %s 1": "c", "op x: down %s 1": "c", "op x: put %s": "n",
		"op x: add t, drop %s": "s", "op x: add t, up %s 1": "c", "op x: add t, put %s": "n", "op x: put %s, add t": "n",
	}
	things := "set t\nset s\ncount c\nnote n\nop o: add t\n"
	for form, want := range right {
		for _, name := range []string{"s", "c", "n", "o", "lost"} {
			s := fmt.Sprintf(form, name)
			if name == want {
				if _, at, e := Read(things + s); e != api.OK || at != 0 {
					t.Errorf("%s: got %d, %d", s, at, e)
				}
				continue
			}
			wrong(t, things+s, 6)
			wrong(t, s+"\n"+things, 1)
			wrong(t, things+"\n"+s+"\n"+s, 7)
		}
	}
	wrong(t, "rule limit a 3", 1)
	wrong(t, "\nop a: add a", 2)
}

// So1: the line by which there is one too many is told.
func TestOneTooMany(t *testing.T) {
	many := func(form string, n int) []string {
		var l []string
		for i := range n {
			l = append(l, strings.ReplaceAll(form, "%", fmt.Sprint(i)))
		}
		return l
	}
	for _, x := range []struct {
		form string
		most int
	}{{"set s%", 6}, {"count c%", 4}, {"note n%", 3}, {"op o%: put q", 16}, {"rule limit s 3", 12}, {"rule ref s r", 12}, {"rule strict both s r", 12}, {"rule most c %", 12}} {
		things, ahead := "set s\nset r\ncount c\nnote q\n", 0
		switch x.form[0] {
		case 's', 'n', 'c':
			things = ""
		default:
			ahead = 4
		}
		for n := range x.most + 1 {
			if r, at, e := Read(things + strings.Join(many(x.form, n), "\n")); e != api.OK || at != 0 || len(r.Sets)+len(r.Counts)+len(r.Notes)+len(r.Opers)+len(r.Clauses) != n+ahead {
				t.Errorf("%d of %s: got %d, %d", n, x.form, at, e)
			}
		}
		for n := x.most + 1; n < x.most+5; n++ {
			l := strings.Join(many(x.form, n), "\n")
			wrong(t, things+l, ahead+x.most+1)
			wrong(t, "\n\n"+things+strings.Join(many(x.form, n), "\n\n"), 2+ahead+2*x.most+1)
			wrong(t, l+"\n"+things, x.most+1)
		}
	}
	// Of all kinds of clauses together there are 12.
	wrong(t, kinds+"\nrule limit s0 5", 22)
	// What uses a thing that is too many is not told: its line is behind, but it names one.
	wrong(t, "rule limit s6 3\nop x: add s6\n"+strings.Join(many("set s%", 7), "\n"), 9)
	wrong(t, "op x: up c4 1, put n0\n"+strings.Join(many("count c%", 5), "\n")+"\nnote n0", 6)
}

// So1: the line with a number out of bounds is told.
func TestNumbersOutOfBounds(t *testing.T) {
	things := "set a\nset b\ncount c\nnote d\n"
	for _, x := range []struct {
		form        string
		least, most int
	}{{"rule limit a %d", 0, 1000}, {"rule most c %d", 0, 1000}, {"rule least c %d", -1000, 0}, {"rule strict least c %d", -1000, 0}, {"op x: up c %d", 1, 1000}, {"op x: add a, down c %d, put d", 1, 1000}} {
		for _, n := range []int{-9999, -1002, -1001, -1000, -999, -1, 0, 1, 2, 999, 1000, 1001, 1002, 9999} {
			s := fmt.Sprintf(x.form, n)
			if n < x.least || n > x.most {
				wrong(t, things+s, 5)
				wrong(t, s+"\n"+things, 1)
				continue
			}
			if r, at, e := Read(things + s); e != api.OK || at != 0 || Check(r) != api.OK {
				t.Errorf("%s: got %d, %d", s, at, e)
			}
		}
	}
}

// So1: a line can be given a number that no text has, and one where none must be; what it says is a clause, or a deed, with that number.
func TestNumbersOfLinesAlone(t *testing.T) {
	things := lines(t, "set a\nset b\ncount c\nnote d")
	for _, n := range numbers() {
		for _, x := range []api.Decl{
			{Kind: api.DeclRef, Name: "a", Other: "b"}, {Kind: api.DeclBoth, Name: "a", Other: "b"}, {Kind: api.DeclNeeds, Name: "c", Other: "b"},
			{Kind: api.DeclLimit, Name: "a"}, {Kind: api.DeclMost, Name: "c"}, {Kind: api.DeclLeast, Name: "c"},
		} {
			x.N = n
			holdPromised(t, numbered(append(slices.Clip(things), x), plus1))
		}
		for kind, name := range map[int]string{api.EffAdd: "a", api.EffDrop: "a", api.EffUp: "c", api.EffDown: "c", api.EffSet: "d"} {
			x := api.Decl{Kind: api.DeclOp, Name: "x", Does: []api.Deed{{Kind: kind, Name: name, N: n}}}
			holdPromised(t, numbered(append(slices.Clip(things), x), plus1))
		}
	}
}

// So1: two things that must be unlike, deeds to one thing, and floors of one count are told at the line by which there are two.
func TestTwoOfOne(t *testing.T) {
	things := "set a\nset b\ncount c\ncount e\nnote d\n"
	for _, s := range []string{
		"rule ref a a", "rule strict ref b b", "rule both b b", "rule strict both a a",
		"op x: add a, drop a", "op x: add a, add a", "op x: add b, drop a, drop b", "op x: up c 1, up c 2", "op x: up c 1, add a, down c 1", "op x: put d, put d", "op x: put d, add a, put d",
	} {
		wrong(t, things+s, 6)
		wrong(t, s+"\n"+things, 1)
	}
	wrong(t, things+"rule least c 0\nrule least c 0", 7)
	wrong(t, things+"rule least c 0\nrule least e 0\nrule most c 5\nrule strict least c -2\nrule least e 0", 9)
	for _, s := range []string{"rule least c 0\nrule least e 0", "rule ref a b\nrule ref a b", "rule most c 0\nrule most c 0", "op x: add a, add b\nop y: add a, add b", "op x: add a, up c 1, put d\nop y: drop a"} {
		if _, at, e := Read(things + s); e != api.OK || at != 0 {
			t.Errorf("%s: got %d, %d", s, at, e)
		}
	}
}

// So1: DeclLeast is strict, said or not; DeclLimit and DeclMost may not be.
func TestStrict(t *testing.T) {
	least := api.Rules{Counts: []string{"c"}, Clauses: []api.Clause{{Kind: api.DeclLeast, Strict: true, N: -3}}}
	holdText(t, "count c\nrule least c -3", least)
	holdText(t, "count c\nrule strict least c -3", least)
	wrong(t, "count c\nrule strict most c 3", 2)
	wrong(t, "rule strict limit c 3\nset c", 1)
	for _, strict := range []bool{false, true} {
		hold(t, []api.Decl{{Kind: api.DeclSet, Name: "a", Strict: strict}, {Kind: api.DeclOp, Name: "x", Strict: strict, Does: []api.Deed{{Kind: api.EffAdd, Name: "a"}}}}, api.Rules{Sets: []string{"a"}, Opers: []api.Oper{{Name: "x", Does: []api.Doing{{Kind: api.EffAdd}}}}})
	}
}

// So1: lines of a Kind that there is not, and with deeds of such ones, are told.
func TestKindsThatThereAreNot(t *testing.T) {
	things := lines(t, "set a\nset b\ncount c\nnote d")
	for _, kind := range []int{math.MinInt, -1, 0, 11, 12, 100, 257, math.MaxInt} {
		x := api.Decl{Kind: kind, Name: "a", Other: "b", Line: 9}
		refuse(t, []api.Decl{x}, 9)
		refuse(t, append(slices.Clip(things), x), 9)
		refuse(t, append([]api.Decl{x}, things...), 9)
	}
	for _, kind := range []int{math.MinInt, -1, 0, api.EffMove, 7, 8, 100, 257, math.MaxInt} {
		for _, name := range []string{"", "a", "c", "d"} {
			x := api.Decl{Kind: api.DeclOp, Name: "x", Line: 9, Does: []api.Deed{{Kind: kind, Name: name}}}
			refuse(t, append(slices.Clip(things), x), 9)
			x.Does = []api.Deed{{Kind: api.EffAdd, Name: "b"}, {Kind: kind, Name: name, N: 1}}
			refuse(t, append(slices.Clip(things), x), 9)
		}
	}
}

// So1: operations of no deed, and of too many, are told; there are no 16 things, so none can do so many.
func TestHowManyDeeds(t *testing.T) {
	var things []api.Decl
	var all []api.Deed
	for i, s := range slices.Concat(names("s", 6), names("c", 4), names("n", 3)) {
		kind := map[byte]int{'s': api.DeclSet, 'c': api.DeclCount, 'n': api.DeclNote}[s[0]]
		things = append(things, api.Decl{Kind: kind, Name: s, Line: i + 1})
		all = append(all, api.Deed{Kind: deedsOfAll()[i].Kind, Name: s, N: deedsOfAll()[i].N})
	}
	want := some(6, 4, 3)
	for n := 1; n <= 13; n++ {
		x := api.Decl{Kind: api.DeclOp, Name: "o0", Does: all[:n], Line: 20}
		hold(t, append(slices.Clip(things), x), doing(want, deedsOfAll()[:n]...))
	}
	for n := range 30 {
		x := api.Decl{Kind: api.DeclOp, Name: "o0", Does: slices.Concat(all, slices.Repeat(all[12:], n+1)), Line: 20}
		refuse(t, append(slices.Clip(things), x), 20)
	}
	refuse(t, append(slices.Clip(things), api.Decl{Kind: api.DeclOp, Name: "o0", Line: 20}), 20)
	refuse(t, append(slices.Clip(things), api.Decl{Kind: api.DeclOp, Name: "o0", Does: []api.Deed{}, Line: 20}), 20)
}

// So1: an operation may do 16 things, and no more, if lines name so many sets, too many as these are: by which line there are no rules tells it.
func TestDeedsToMoreThingsThanMayBe(t *testing.T) {
	for n := 7; n < 25; n++ {
		oper := api.Decl{Kind: api.DeclOp, Name: "o0", Line: 1}
		var sets []api.Decl
		for i, s := range names("s", n) {
			oper.Does = append(oper.Does, api.Deed{Kind: api.EffAdd, Name: s})
			sets = append(sets, api.Decl{Kind: api.DeclSet, Name: s, Line: 2 + i})
		}
		want := 8
		if n > 16 {
			want = 1
		}
		refuse(t, append([]api.Decl{oper}, sets...), want)
	}
}

// So1: of two lines that are wrong the first one is told, and of two faults in one line that line; by the order of lines, not by their numbers.
func TestFirstOfTwo(t *testing.T) {
	faults := []string{"set a", "rule limit lost 3", "rule most c 1001", "op x: add a, add a", "rule ref a a", "rule strict limit a 3", "op a: put c", "op c: up c 0", "rule needs a c", "rule least lost 5"}
	for _, first := range faults {
		for _, second := range faults {
			wrong(t, "set a\ncount c\n"+first+"\n"+second, 3)
			wrong(t, "set a\ncount c\nset b\n\n"+first+"\nrule ref a b\n"+second, 5)
		}
	}
	for _, first := range faults[1:] {
		wrong(t, first+"\nset a\ncount c\nset a", 1)
		l := lines(t, "set a\ncount c\n"+first+"\nset a")
		for i, at := range []int{8, 7, -3, 0} {
			l[i].Line = at
		}
		refuse(t, l, -3)
		l[2].Line = 0
		refuse(t, l, 0)
	}
}

// So1: what a line has beside what it says is no fault, as rules have nothing of it.
func TestWhatLinesDoNotSay(t *testing.T) {
	deeds := []api.Deed{{Kind: 77}}
	hold(t, []api.Decl{
		{Kind: api.DeclSet, Name: "a", Other: "lost", N: 5000, Does: deeds},
		{Kind: api.DeclCount, Name: "c", Other: "a", N: -1, Does: deeds},
		{Kind: api.DeclNote, Name: "d", Other: "set", N: 1, Does: deeds},
		{Kind: api.DeclLimit, Name: "a", Other: "lost", N: 3, Does: deeds},
		{Kind: api.DeclLeast, Name: "c", Other: "a", N: -3, Does: deeds},
		{Kind: api.DeclOp, Name: "x", Other: "x", N: -7, Does: []api.Deed{{Kind: api.EffSet, Name: "d"}}},
	}, api.Rules{
		Sets: []string{"a"}, Counts: []string{"c"}, Notes: []string{"d"},
		Clauses: []api.Clause{{Kind: api.DeclLimit, N: 3}, {Kind: api.DeclLeast, Strict: true, N: -3}},
		Opers:   []api.Oper{{Name: "x", Does: []api.Doing{{Kind: api.EffSet}}}},
	})
}

// So1: Read tells layer 15's errors, and layer 14's, with their lines, ahead of what is wrong with rules.
func TestReadOfNoLines(t *testing.T) {
	for _, ahead := range []string{"", "set a\n", "set a\nset a\n", "rule limit lost 3\n", "op a: add a\n\nset a\n"} {
		n := strings.Count(ahead, "\n")
		for _, x := range []string{"B", "set", "set set", "set a b", "rule limit a", "rule limit a 10000", "op x:", "op x: add a,", "é", "-0", "\x00", "set " + strings.Repeat("a", 17)} {
			refuseText(t, ahead+x, n+1, api.ErrText)
			refuseText(t, ahead+x+"\nset a\nset a", n+1, api.ErrText)
			refuseText(t, ahead+"set q\n\n"+x, n+3, api.ErrText)
		}
		refuseText(t, ahead+strings.Repeat(" ", 4097), 0, api.ErrBig)
		refuseText(t, ahead+strings.Repeat(":", 801), n+1, api.ErrBig)
	}
	for n := 61; n < 70; n++ {
		refuseText(t, strings.Repeat("set a\n", n), 61, api.ErrBig)
		refuseText(t, strings.Repeat("rule limit lost 3\n#\n", n), 121, api.ErrBig)
		refuseText(t, strings.Repeat("set a\n", n)+"set", n+1, api.ErrText)
	}
	wrong(t, strings.Repeat("set a\n", 60), 2)
}

// So1: Read of texts is Of of their lines.
func TestReadIsOfLines(t *testing.T) {
	d := dice{rand.New(rand.NewSource(160))}
	for range 3000 {
		var l []string
		for range d.Intn(9) {
			l = append(l, d.one("set a", "set b", "count c", "count a", "note n", "", "# set a", "rule ref a b", "rule least c -1", "rule limit b 2", "op x: add a", "op y: down c 1, put n", "op n: drop a", "rule needs c b", "set", "op z: put b", "B"))
		}
		s := strings.Join(l, "\n")
		all, line, e := parse.Lines(s)
		if e != api.OK {
			refuseText(t, s, line, e)
			continue
		}
		want, line, e := asPromised(all)
		if e != api.OK {
			wrong(t, s, line)
			continue
		}
		holdText(t, s, want)
	}
}

// R3, R4 and R7a: lines are not written to or kept, answers hang on them alone, and no two lists of answers share memory.
func TestAnswersApart(t *testing.T) {
	l, kept := lines(t, kinds), lines(t, kinds)
	first, _, _ := Of(l)
	second, _, _ := Of(l)
	same := func(a, b api.Decl) bool {
		x, y := a, b
		x.Does, y.Does = nil, nil
		return slices.Equal(a.Does, b.Does) && fmt.Sprint(x) == fmt.Sprint(y)
	}
	if !slices.EqualFunc(l, kept, same) {
		t.Error("lines were written to")
	}
	for i := range l {
		l[i].Name = "other"
		for j := range l[i].Does {
			l[i].Does[j] = api.Deed{}
		}
	}
	want, _, _ := Of(kept)
	if !Same(first, want) {
		t.Error("rules changed with their lines")
	}
	for _, names := range [][]string{first.Sets, first.Counts, first.Notes} {
		more := append(names, "more")
		more[0] = "other"
	}
	more := append(first.Opers[0].Does, api.Doing{Kind: 9})
	more[0] = api.Doing{Kind: 9}
	if !Same(api.Rules{Opers: first.Opers[1:]}, api.Rules{Opers: want.Opers[1:]}) || !Same(second, want) {
		t.Error("rules changed with others")
	}
}
