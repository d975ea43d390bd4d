package sorts

import (
	"testing"

	"huckster/api"
)

// alike tells whether Same answers so, whichever rules stand first.
func alike(t *testing.T, want bool, a, b api.Rules) {
	t.Helper()
	if Same(a, b) != want || Same(b, a) != want {
		t.Errorf("got %v, want %v, of %s and %s", !want, want, short(a), short(b))
	}
}

// So1: the same rules are alike, also where they stand in other memory, or have no list for an empty one.
func TestSameOfTheSame(t *testing.T) {
	alike(t, true, whole(), whole())
	alike(t, true, api.Rules{}, api.Rules{})
	alike(t, true, api.Rules{}, api.Rules{Sets: []string{}, Counts: []string{}, Notes: []string{}, Clauses: []api.Clause{}, Opers: []api.Oper{}})
	alike(t, true, api.Rules{Opers: []api.Oper{{Name: "a"}}}, api.Rules{Opers: []api.Oper{{Name: "a", Does: []api.Doing{}}}})
}

// So1: rules that may not be are held against each other too.
func TestSameOfWhatMayNotBe(t *testing.T) {
	r := api.Rules{Sets: []string{"set", "set"}, Clauses: []api.Clause{{Kind: 77, A: -1}}, Opers: []api.Oper{{}}}
	alike(t, true, r, api.Rules{Sets: []string{"set", "set"}, Clauses: []api.Clause{{Kind: 77, A: -1}}, Opers: []api.Oper{{}}})
	alike(t, false, r, api.Rules{Sets: []string{"set", "set"}, Clauses: []api.Clause{{Kind: 77, A: -2}}, Opers: []api.Oper{{}}})
	alike(t, false, r, api.Rules{})
}

// texts are each list of names of rules, in turn.
func texts(r *api.Rules) []*[]string {
	return []*[]string{&r.Sets, &r.Counts, &r.Notes}
}

// eachName goes through whole rules that differ in their names: another one, one more, one less, two the other way round.
func eachName(see func(api.Rules)) {
	for i := range 3 {
		r := whole()
		for j := range *texts(&r)[i] {
			r := whole()
			l := *texts(&r)[i]
			l[j] += "x"
			see(r)
			r = whole()
			l = *texts(&r)[i]
			*texts(&r)[i] = append(l[:j], l[j+1:]...)
			see(r)
			if j > 0 {
				r = whole()
				l = *texts(&r)[i]
				l[0], l[j] = l[j], l[0]
				see(r)
			}
		}
		*texts(&r)[i] = append(*texts(&r)[i], "more")
		see(r)
		*texts(&r)[i] = nil
		see(r)
	}
}

// eachClause goes through whole rules that differ in their clauses.
func eachClause(see func(api.Rules)) {
	for i, c := range whole().Clauses {
		for _, x := range []api.Clause{
			{Kind: c.Kind + 1, Strict: c.Strict, A: c.A, B: c.B, N: c.N},
			{Kind: c.Kind, Strict: !c.Strict, A: c.A, B: c.B, N: c.N},
			{Kind: c.Kind, Strict: c.Strict, A: c.A + 1, B: c.B, N: c.N},
			{Kind: c.Kind, Strict: c.Strict, A: c.A, B: c.B - 1, N: c.N},
			{Kind: c.Kind, Strict: c.Strict, A: c.A, B: c.B, N: c.N + 1},
			{},
		} {
			r := whole()
			r.Clauses[i] = x
			see(r)
		}
		r := whole()
		r.Clauses[i], r.Clauses[(i+1)%12] = r.Clauses[(i+1)%12], r.Clauses[i]
		see(r)
		r = whole()
		r.Clauses = append(r.Clauses[:i], r.Clauses[i+1:]...)
		see(r)
	}
	r := whole()
	r.Clauses = append(r.Clauses, r.Clauses[11])
	see(r)
	r.Clauses = nil
	see(r)
}

// eachDeed goes through whole rules that differ in what an operation does.
func eachDeed(i int, see func(api.Rules)) {
	for j, d := range deedsOfAll() {
		for _, x := range []api.Doing{
			{Kind: d.Kind + 1, Of: d.Of, N: d.N},
			{Kind: d.Kind, Of: d.Of + 1, N: d.N},
			{Kind: d.Kind, Of: d.Of, N: d.N - 1},
		} {
			r := whole()
			r.Opers[i].Does[j] = x
			see(r)
		}
		r := whole()
		r.Opers[i].Does = append(r.Opers[i].Does[:j], r.Opers[i].Does[j+1:]...)
		see(r)
		if j > 0 {
			r = whole()
			l := r.Opers[i].Does
			l[0], l[j] = l[j], l[0]
			see(r)
		}
	}
	r := whole()
	r.Opers[i].Does = append(r.Opers[i].Does, api.Doing{})
	see(r)
	r.Opers[i].Does = nil
	see(r)
}

// eachOper goes through whole rules that differ in their operations.
func eachOper(see func(api.Rules)) {
	for i := range 16 {
		r := whole()
		r.Opers[i].Name += "x"
		see(r)
		r = whole()
		r.Opers = append(r.Opers[:i], r.Opers[i+1:]...)
		see(r)
		if i > 0 {
			r = whole()
			r.Opers[0], r.Opers[i] = r.Opers[i], r.Opers[0]
			see(r)
		}
		eachDeed(i, see)
	}
	r := whole()
	r.Opers = append(r.Opers, api.Oper{})
	see(r)
	r.Opers = nil
	see(r)
}

// So1: rules that differ in one place, whichever, are not alike.
func TestSameOfOthers(t *testing.T) {
	see := func(r api.Rules) {
		t.Helper()
		alike(t, false, whole(), r)
		alike(t, true, r, r)
	}
	eachName(see)
	eachClause(see)
	eachOper(see)
	alike(t, false, whole(), api.Rules{})
	// A name of one sort is none of another one.
	alike(t, false, api.Rules{Sets: []string{"a"}}, api.Rules{Counts: []string{"a"}})
	alike(t, false, api.Rules{Notes: []string{"a"}}, api.Rules{Counts: []string{"a"}})
	alike(t, false, api.Rules{Notes: []string{"a"}}, api.Rules{Sets: []string{"a"}})
}

// So1: Check of rules that differ in one place is as the words say.
func TestCheckOfOthers(t *testing.T) {
	see := func(r api.Rules) {
		t.Helper()
		may(t, mayBe(r), r)
	}
	eachName(see)
	eachClause(see)
	eachOper(see)
}
