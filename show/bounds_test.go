package show

import (
	"math"
	"slices"
	"strings"
	"testing"

	"huckster/api"
	"huckster/sorts"
)

// renamed are rules whose things and operations have names made of theirs; what a list of rules names is of its own memory.
func renamed(r api.Rules, name func(string) string) api.Rules {
	all := func(l []string) []string {
		l = slices.Clone(l)
		for i := range l {
			l[i] = name(l[i])
		}
		return l
	}
	r.Sets, r.Counts, r.Notes = all(r.Sets), all(r.Counts), all(r.Notes)
	r.Opers = slices.Clone(r.Opers)
	for i := range r.Opers {
		r.Opers[i].Name = name(r.Opers[i].Name)
	}
	return r
}

// widest are rules whose names have sixteen signs each.
func widest(r api.Rules) api.Rules {
	return renamed(r, func(s string) string { return s + strings.Repeat("x", 16-len(s)) })
}

// grow lets names of a list be longer, sign by sign, as long as the text of the rules has no more than so many bytes.
func grow(r api.Rules, names []*string, most int) {
	for _, s := range names {
		for len(*s) < api.MaxName {
			short := *s
			*s += "y"
			if len(asText(r)) > most {
				*s = short
				break
			}
		}
	}
}

// ofBytes are rules whose text has so many bytes: things' names are made longer first, then those of operations, which stand there once each.
func ofBytes(t *testing.T, r api.Rules, bytes int) api.Rules {
	t.Helper()
	r = renamed(r, func(s string) string { return s })
	var things, opers []*string
	for _, l := range [][]string{r.Sets, r.Counts, r.Notes} {
		for i := range l {
			things = append(things, &l[i])
		}
	}
	for i := range r.Opers {
		opers = append(opers, &r.Opers[i].Name)
	}
	grow(r, things, bytes)
	grow(r, opers, bytes)
	if n := len(asText(r)); n != bytes {
		t.Fatalf("made rules of %d bytes, want %d", n, bytes)
	}
	return r
}

// Sh1: a text has 4096 bytes at most; lines are told however long it would be.
func TestMaxText(t *testing.T) {
	for opers := 11; opers <= 16; opers++ {
		for _, bytes := range []int{4000, 4094, 4095, 4096} {
			r := ofBytes(t, full(opers), bytes)
			isText(t, r, asText(r))
		}
		for _, bytes := range []int{4097, 4098, 4099, 4200} {
			r := ofBytes(t, full(opers), bytes)
			isNone(t, r, api.ErrBig)
			areLines(t, r)
		}
	}
	for opers := 11; opers <= 14; opers++ {
		isRead(t, ofBytes(t, full(opers), 4096))
	}
	r := widest(full(16))
	isNone(t, r, api.ErrBig)
	areLines(t, r)
}

// Sh1: of rules that may not be and whose text would be too long, ErrArg is told.
func TestArgAheadOfBig(t *testing.T) {
	r := widest(full(16))
	isNone(t, r, api.ErrBig)
	for _, s := range []string{"", "set", "A", r.Sets[0], r.Opers[3].Name + "x", strings.Repeat("a", 5000)} {
		r.Opers[15].Name = s
		isNone(t, r, api.ErrArg)
	}
	r = widest(full(16))
	r.Clauses[11].N = 1
	isNone(t, r, api.ErrArg)
	isNone(t, doing(widest(full(16)), api.Doing{Kind: api.EffAdd}), api.ErrArg)
	isNone(t, api.Rules{Sets: []string{strings.Repeat("a", 4092)}}, api.ErrArg)
	isNone(t, api.Rules{Sets: []string{strings.Repeat("a", 4091)}}, api.ErrArg)
}

// tokensOf is how many tokens layer 14 has of the text of rules.
func tokensOf(r api.Rules) int {
	n := 1
	for _, line := range asTokens(r) {
		n += len(line) + 1
	}
	return n
}

// Sh1: a text is told also where it has more tokens than layer 14 reads, as the bound is one of bytes; up to that many, it is read again (Sh2).
func TestManyTokens(t *testing.T) {
	r := doing(full(15), api.Doing{Kind: api.EffAdd})
	for i, want := range []int{799, 800, 801, 802} {
		if i > 0 {
			r.Clauses[[]int{1, 3, 5}[i-1]].Strict = true
		}
		if n := tokensOf(r); n != want {
			t.Fatalf("made rules of %d tokens, want %d", n, want)
		}
		isText(t, r, asText(r))
		if want <= api.MaxTokens {
			isRead(t, r)
		} else if _, _, e := sorts.Read(asText(r)); e != api.ErrBig {
			t.Errorf("%d tokens: layer 16 told %d", want, e)
		}
	}
	r = full(16)
	for i := range 6 {
		r.Clauses[i].Strict = true
		r.Clauses[6+i] = r.Clauses[i]
	}
	if n := tokensOf(r); n != 848 {
		t.Errorf("made rules of %d tokens", n)
	}
	isText(t, r, asText(r))
}

// mayNot are rules that may not be, each in another way.
func mayNot() []api.Rules {
	a := api.Rules{Sets: []string{"a", "b"}, Counts: []string{"c", "d"}, Notes: []string{"e", "f"}}
	add := []api.Doing{{Kind: api.EffAdd}}
	l := []api.Rules{
		some(7, 0, 0), some(0, 5, 0), some(0, 0, 4), full(17),
		with(full(0), api.Clause{Kind: api.DeclMost}),
		{Sets: []string{"a", "a"}}, {Counts: []string{"a", "a"}}, {Notes: []string{"a", "a"}},
		{Sets: []string{"a"}, Counts: []string{"a"}}, {Sets: []string{"a"}, Notes: []string{"a"}}, {Counts: []string{"a"}, Notes: []string{"a"}},
		{Sets: []string{"a"}, Opers: []api.Oper{{Name: "a", Does: add}}},
		{Sets: []string{"a"}, Opers: []api.Oper{{Name: "x", Does: add}, {Name: "x", Does: add}}},
		with(a, api.Clause{Kind: api.DeclLeast, Strict: true}, api.Clause{Kind: api.DeclLeast, Strict: true, N: -1}),
		{Opers: []api.Oper{{Name: "x"}}},
	}
	for _, s := range []string{"", "A", "1", "a b", "a-", "a\n", "é", "set", "up", "rule", strings.Repeat("a", 17)} {
		l = append(l, api.Rules{Sets: []string{s}}, api.Rules{Counts: []string{s}}, api.Rules{Notes: []string{s}}, api.Rules{Sets: []string{"b"}, Opers: []api.Oper{{Name: s, Does: add}}})
	}
	for _, c := range noClauses() {
		l = append(l, with(a, c), with(a, api.Clause{Kind: api.DeclLimit}, c))
	}
	for _, d := range noDeeds() {
		l = append(l, doing(a, d), doing(doing(a, add...), api.Doing{Kind: api.EffDrop, Of: 1}, d))
	}
	return append(l, doing(a, add[0], api.Doing{Kind: api.EffDrop}), doing(a, add[0], add[0]))
}

// noClauses are such as rules of two sets, counts and notes may not have.
func noClauses() []api.Clause {
	var l []api.Clause
	for _, k := range []int{math.MinInt, -1, 0, api.DeclSet, api.DeclCount, api.DeclNote, api.DeclOp, 11, math.MaxInt} {
		l = append(l, api.Clause{Kind: k, B: 1}, api.Clause{Kind: k, Strict: true})
	}
	for _, k := range []int{api.DeclRef, api.DeclBoth, api.DeclNeeds} {
		l = append(l, api.Clause{Kind: k, A: 2}, api.Clause{Kind: k, A: -1}, api.Clause{Kind: k, B: 2}, api.Clause{Kind: k, B: -1}, api.Clause{Kind: k, B: 1, N: 1}, api.Clause{Kind: k, B: 1, N: -1})
	}
	l = append(l, api.Clause{Kind: api.DeclRef}, api.Clause{Kind: api.DeclBoth, A: 1, B: 1, Strict: true})
	for _, k := range []int{api.DeclLimit, api.DeclMost} {
		l = append(l, api.Clause{Kind: k, A: 2}, api.Clause{Kind: k, A: -1}, api.Clause{Kind: k, B: 1}, api.Clause{Kind: k, Strict: true}, api.Clause{Kind: k, N: -1}, api.Clause{Kind: k, N: 1001}, api.Clause{Kind: k, N: math.MaxInt})
	}
	for _, c := range []api.Clause{{A: 2}, {A: -1}, {B: 1}, {N: 1}, {N: -1001}, {N: math.MinInt}} {
		c.Kind, c.Strict = api.DeclLeast, true
		l = append(l, c)
	}
	return append(l, api.Clause{Kind: api.DeclLeast})
}

// noDeeds are such as operations of two sets, counts and notes may not do.
func noDeeds() []api.Doing {
	var l []api.Doing
	for _, k := range []int{math.MinInt, -1, 0, api.EffMove, 7, math.MaxInt} {
		l = append(l, api.Doing{Kind: k}, api.Doing{Kind: k, N: 1})
	}
	for _, k := range []int{api.EffAdd, api.EffDrop, api.EffSet} {
		l = append(l, api.Doing{Kind: k, Of: 2}, api.Doing{Kind: k, Of: -1}, api.Doing{Kind: k, N: 1}, api.Doing{Kind: k, N: -1})
	}
	for _, k := range []int{api.EffUp, api.EffDown} {
		l = append(l, api.Doing{Kind: k, Of: 2, N: 1}, api.Doing{Kind: k, Of: -1, N: 1}, api.Doing{Kind: k}, api.Doing{Kind: k, N: -1}, api.Doing{Kind: k, N: 1001})
	}
	return l
}

// Sh1: rules that may not be have neither a text nor lines, in whichever way they may not, and whatever else they have.
func TestMayNotBe(t *testing.T) {
	for _, r := range mayNot() {
		isNone(t, r, api.ErrArg)
	}
}

// areLines tells whether all of a rule set's lines are told, and none at other numbers.
func areLines(t *testing.T, r api.Rules) {
	t.Helper()
	var clauses, opers []string
	for _, s := range strings.Split(strings.TrimSuffix(asText(r), "\n"), "\n") {
		switch {
		case strings.HasPrefix(s, "rule "):
			clauses = append(clauses, s)
		case strings.HasPrefix(s, "op "):
			opers = append(opers, s)
		}
	}
	if len(clauses) != len(r.Clauses) || len(opers) != len(r.Opers) {
		t.Fatalf("the text has %d clauses and %d operations", len(clauses), len(opers))
	}
	are(t, "Clause", func(i int) string { return Clause(r, i) }, clauses)
	are(t, "Oper", func(i int) string { return Oper(r, i) }, opers)
}

// are tells whether lines are told at their numbers, and none at others.
func are(t *testing.T, name string, got func(int) string, want []string) {
	t.Helper()
	for i, s := range want {
		if got(i) != s {
			t.Errorf("%s at %d: got %q, want %q", name, i, got(i), s)
		}
	}
	n := len(want)
	for _, i := range []int{math.MinInt, math.MinInt32, -256, -n - 1, -n, -2, -1, n, n + 1, n + 2, 2*n + 3, 256, 1 << 32, 1<<32 + n, math.MaxInt} {
		if s := got(i); s != "" && (i < 0 || i >= n) {
			t.Errorf("%s at %d of %d: got %q, want nothing", name, i, n, s)
		}
	}
}

// Sh1: Clause and Oper tell the lines of Text, without their ends, at their numbers alone.
func TestLines(t *testing.T) {
	areLines(t, api.Rules{})
	areLines(t, some(6, 4, 3))
	for n := range 17 {
		areLines(t, full(n))
		r := full(n)
		r.Clauses = r.Clauses[:min(n, 12)]
		areLines(t, r)
	}
	r := full(3)
	s, _ := Text(r)
	l := strings.Split(s, "\n")
	for i := range r.Clauses {
		if l[13+i] != Clause(r, i) {
			t.Errorf("Clause at %d is not Text's line", i)
		}
	}
	for i := range r.Opers {
		if l[13+12+i] != Oper(r, i) {
			t.Errorf("Oper at %d is not Text's line", i)
		}
	}
	if len(l) != 13+12+3+1 || l[len(l)-1] != "" {
		t.Error("each line is ended by a line feed, and nothing stands behind the last one")
	}
}
