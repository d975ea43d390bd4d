package sorts

import (
	"fmt"
	"math"
	"slices"
	"strings"
	"testing"

	"huckster/api"
	"huckster/lex"
	"huckster/parse"
)

// keptWords are the words that are no name.
func keptWords() []string {
	return strings.Fields("set count note rule op strict ref both limit most least needs add drop up down put")
}

// noNames are texts that are no name.
func noNames() []string {
	return append(keptWords(), "", " ", "a ", " a", "a b", "\ta", "a\n", "a\nset b", "a#", "#", "1", "1a", "-a", "a-", "a-b", "a_b", "A", "aB", "a:", "a,", "\x00", "a\x00", "\xff", "é", "aé", "ａ", "a１", "à", strings.Repeat("a", 17), strings.Repeat("a1", 9), strings.Repeat("a", 5000))
}

// oddNames are texts that are names, but close to some that are none.
func oddNames() []string {
	return []string{"a", "z", "a0", "z9", "sets", "se", "e1", "putt", "ops", "o", "rul", "strict1", "nee", "setset", strings.Repeat("a", 16), strings.Repeat("z9", 8), "a000000000000000", "move", "i", "word"}
}

// names are so many names that begin with a letter.
func names(letter string, n int) []string {
	var l []string
	for i := range n {
		l = append(l, fmt.Sprintf("%s%d", letter, i))
	}
	return l
}

// some are rules of so many sets, counts and notes, with neither clauses nor operations.
func some(sets, counts, notes int) api.Rules {
	return api.Rules{Sets: names("s", sets), Counts: names("c", counts), Notes: names("n", notes)}
}

// with are rules with clauses, beside what they have.
func with(r api.Rules, l ...api.Clause) api.Rules {
	r.Clauses = slices.Concat(r.Clauses, l)
	return r
}

// doing are rules with an operation that does some things, beside what they have.
func doing(r api.Rules, l ...api.Doing) api.Rules {
	r.Opers = append(slices.Clone(r.Opers), api.Oper{Name: fmt.Sprintf("o%d", len(r.Opers)), Does: l})
	return r
}

// whole are rules in which there is as much as there may be.
func whole() api.Rules {
	r := with(some(6, 4, 3),
		api.Clause{Kind: api.DeclRef, Strict: true, A: 0, B: 5},
		api.Clause{Kind: api.DeclRef, A: 5, B: 0},
		api.Clause{Kind: api.DeclBoth, Strict: true, A: 1, B: 2},
		api.Clause{Kind: api.DeclBoth, A: 4, B: 3},
		api.Clause{Kind: api.DeclNeeds, Strict: true, A: 3, B: 5},
		api.Clause{Kind: api.DeclNeeds, A: 0, B: 0},
		api.Clause{Kind: api.DeclLimit, A: 5, N: 1000},
		api.Clause{Kind: api.DeclMost, A: 3, N: 1000},
		api.Clause{Kind: api.DeclLeast, Strict: true, A: 0},
		api.Clause{Kind: api.DeclLeast, Strict: true, A: 1, N: -1000},
		api.Clause{Kind: api.DeclLeast, Strict: true, A: 2, N: -1},
		api.Clause{Kind: api.DeclLeast, Strict: true, A: 3, N: -999},
	)
	for len(r.Opers) < 16 {
		r = doing(r, deedsOfAll()...)
	}
	return r
}

// deedsOfAll are deeds to each of all 13 things that there may be.
func deedsOfAll() []api.Doing {
	return []api.Doing{
		{Kind: api.EffAdd}, {Kind: api.EffDrop, Of: 1}, {Kind: api.EffAdd, Of: 2}, {Kind: api.EffDrop, Of: 3}, {Kind: api.EffAdd, Of: 4}, {Kind: api.EffDrop, Of: 5},
		{Kind: api.EffUp, N: 1}, {Kind: api.EffDown, Of: 1, N: 1000}, {Kind: api.EffUp, Of: 2, N: 1000}, {Kind: api.EffDown, Of: 3, N: 1},
		{Kind: api.EffSet}, {Kind: api.EffSet, Of: 1}, {Kind: api.EffSet, Of: 2},
	}
}

// may tells whether Check answers that rules may be, or may not, as is asked for.
func may(t *testing.T, want bool, r api.Rules) {
	t.Helper()
	e := api.ErrArg
	if want {
		e = api.OK
	}
	if got := Check(r); got != e {
		t.Errorf("%s: got %d, want %d", short(r), got, e)
	}
}

// short is the beginning of what something is.
func short(x any) string {
	s := fmt.Sprintf("%+v", x)
	if len(s) > 600 {
		s = s[:600] + " and so on"
	}
	return s
}

// So1: rules of nothing may be, of no lists as of empty ones; so may those of as much as there may be.
func TestCheckLeastAndMost(t *testing.T) {
	may(t, true, api.Rules{})
	may(t, true, api.Rules{Sets: []string{}, Counts: []string{}, Notes: []string{}, Clauses: []api.Clause{}, Opers: []api.Oper{}})
	may(t, true, whole())
	may(t, true, with(some(1, 0, 0), api.Clause{Kind: api.DeclLimit, N: 3}))
}

// So1: up to 6 sets, 4 counts, 3 notes, 16 operations and 12 clauses may be, and no more.
func TestCheckHowMany(t *testing.T) {
	for n := range 30 {
		may(t, n <= 6, some(n, 0, 0))
		may(t, n <= 4, some(0, n, 0))
		may(t, n <= 3, some(0, 0, n))
		may(t, n <= 6, some(n, 4, 3))
		may(t, n <= 4, some(6, n, 3))
		may(t, n <= 3, some(6, 4, n))
		r := some(1, 0, 0)
		for range n {
			r = doing(r, api.Doing{Kind: api.EffAdd})
		}
		may(t, n <= 16, r)
		for _, c := range []api.Clause{{Kind: api.DeclRef, A: 1}, {Kind: api.DeclBoth, B: 1, Strict: true}, {Kind: api.DeclNeeds}, {Kind: api.DeclLimit}, {Kind: api.DeclMost}} {
			may(t, n <= 12, with(some(2, 1, 0), slices.Repeat([]api.Clause{c}, n)...))
			may(t, n <= 11, with(some(2, 1, 0), append(slices.Repeat([]api.Clause{c}, n), api.Clause{Kind: api.DeclLeast, Strict: true})...))
		}
	}
}

// named are rules that may be, with a name in each place where one stands, in turn: places are told by their lists.
func named(name string, see func(list string, r api.Rules)) {
	for i := range 2 {
		r := doing(doing(some(2, 2, 2), api.Doing{Kind: api.EffAdd}), api.Doing{Kind: api.EffAdd})
		r.Sets[i] = name
		see("sets", r)
		r.Sets = names("s", 2)
		r.Counts[i] = name
		see("counts", r)
		r.Counts = names("c", 2)
		r.Notes[i] = name
		see("notes", r)
		r.Notes = names("n", 2)
		r.Opers[i].Name = name
		see("opers", r)
	}
}

// So1: each name is a word that is not kept.
func TestCheckNames(t *testing.T) {
	for _, s := range oddNames() {
		named(s, func(_ string, r api.Rules) { may(t, true, r) })
	}
	for _, s := range noNames() {
		named(s, func(_ string, r api.Rules) { may(t, false, r) })
	}
}

// So1: names are as layers 14 and 15 say: each text of a byte or two, and each kept word with a byte more, less, or another one.
func TestCheckNamesAsLexed(t *testing.T) {
	var texts []string
	for a := range 256 {
		texts = append(texts, string([]byte{byte(a)}), string(rune(a*300)))
		for b := range 256 {
			texts = append(texts, string([]byte{byte(a), byte(b)}))
		}
	}
	for _, k := range keptWords() {
		for i := range len(k) {
			for b := range 256 {
				c := string([]byte{byte(b)})
				texts = append(texts, k[:i]+c+k[i:], k[:i]+c+k[i+1:], k[:i]+k[i+1:], k+c)
			}
		}
	}
	for n := range 20 {
		texts = append(texts, strings.Repeat("k", n), strings.Repeat("9", n), "a"+strings.Repeat("9", n), "a"+strings.Repeat("é", n))
	}
	for _, s := range texts {
		may(t, lex.Word(s) && !parse.Kept(s), api.Rules{Sets: []string{s}})
	}
}

// So1: no two names are the same, of one list or of two.
func TestCheckNamesAlike(t *testing.T) {
	for _, other := range []string{"s0", "s1", "c0", "c1", "n0", "n1", "o0", "o1"} {
		may(t, true, doing(doing(some(2, 2, 2), api.Doing{Kind: api.EffAdd}), api.Doing{Kind: api.EffAdd}))
		named(other, func(list string, r api.Rules) {
			var all []string
			for _, o := range r.Opers {
				all = append(all, o.Name)
			}
			all = slices.Concat(all, r.Sets, r.Counts, r.Notes)
			slices.Sort(all)
			may(t, len(slices.Compact(all)) == 8, r)
		})
	}
	may(t, false, api.Rules{Sets: []string{"a", "a"}})
	may(t, false, api.Rules{Counts: []string{"a", "b", "a"}})
	may(t, false, api.Rules{Notes: []string{"b", "a", "a"}})
	may(t, false, api.Rules{Sets: []string{"a"}, Counts: []string{"a"}})
	may(t, false, api.Rules{Sets: []string{"a"}, Notes: []string{"b", "a"}})
	may(t, false, api.Rules{Counts: []string{"b", "a"}, Notes: []string{"a"}})
	one := []api.Doing{{Kind: api.EffAdd}}
	may(t, false, api.Rules{Sets: []string{"a"}, Opers: []api.Oper{{Name: "a", Does: one}}})
	may(t, false, api.Rules{Sets: []string{"a"}, Counts: []string{"b"}, Opers: []api.Oper{{Name: "b", Does: one}}})
	may(t, false, api.Rules{Sets: []string{"a"}, Notes: []string{"b"}, Opers: []api.Oper{{Name: "c", Does: one}, {Name: "b", Does: one}}})
	may(t, false, api.Rules{Sets: []string{"a"}, Opers: []api.Oper{{Name: "b", Does: one}, {Name: "b", Does: one}}})
	may(t, true, api.Rules{Sets: []string{"a"}, Opers: []api.Oper{{Name: "b", Does: one}, {Name: "aa", Does: one}}})
}

// numbers are numbers at all bounds of clauses and deeds, and beyond all.
func numbers() []int {
	return []int{math.MinInt, math.MinInt32, -9999, -1001, -1000, -999, -2, -1, 0, 1, 2, 999, 1000, 1001, 9999, math.MaxInt32, math.MaxInt}
}

// So1: clauses of two things: A and B are such ones, unlike where both are sets; N is 0; strict or not.
func TestCheckPairs(t *testing.T) {
	at := []int{math.MinInt, -2, -1, 0, 1, 2, 3, 4, 5, math.MaxInt}
	for _, a := range at {
		for _, b := range at {
			for _, strict := range []bool{false, true} {
				isSet, isOther, isCount := a >= 0 && a < 3, b >= 0 && b < 3, a >= 0 && a < 2
				for kind, want := range map[int]bool{
					api.DeclRef:   isSet && isOther && a != b,
					api.DeclBoth:  isSet && isOther && a != b,
					api.DeclNeeds: isCount && isOther,
				} {
					c := api.Clause{Kind: kind, Strict: strict, A: a, B: b}
					may(t, want, with(some(3, 2, 3), c))
					may(t, false, with(some(0, 2, 3), c))
					may(t, want, with(some(3, 2, 3), api.Clause{Kind: api.DeclLimit}, c, c))
					for _, n := range numbers() {
						c.N = n
						may(t, want && n == 0, with(some(3, 2, 3), c))
					}
				}
			}
		}
	}
}

// So1: clauses of one thing: A is such a one, B is 0, N within bounds; DeclLeast is strict, the others are not.
func TestCheckBounds(t *testing.T) {
	for _, n := range numbers() {
		for _, a := range []int{math.MinInt, -1, 0, 1, 2, 3, math.MaxInt} {
			for _, b := range []int{math.MinInt, -1, 0, 1, 2, math.MaxInt} {
				for _, strict := range []bool{false, true} {
					isSet, isCount := a >= 0 && a < 3, a >= 0 && a < 2
					above, below := n >= 0 && n <= 1000, n >= -1000 && n <= 0
					for kind, want := range map[int]bool{
						api.DeclLimit: isSet && b == 0 && above && !strict,
						api.DeclMost:  isCount && b == 0 && above && !strict,
						api.DeclLeast: isCount && b == 0 && below && strict,
					} {
						may(t, want, with(some(3, 2, 3), api.Clause{Kind: kind, Strict: strict, A: a, B: b, N: n}))
					}
				}
			}
		}
	}
}

// So1: there are six kinds of clauses.
func TestCheckKindsOfClauses(t *testing.T) {
	kinds := []int{math.MinInt, -1, math.MaxInt}
	for k := range 300 {
		kinds = append(kinds, k)
	}
	for _, k := range kinds {
		ref, other := k >= api.DeclRef && k <= api.DeclBoth, k >= api.DeclLimit && k <= api.DeclNeeds
		may(t, ref || other, with(some(2, 2, 2), api.Clause{Kind: k, Strict: k == api.DeclLeast, A: 1}))
		may(t, ref || k == api.DeclNeeds, with(some(2, 2, 2), api.Clause{Kind: k, Strict: true, B: 1}))
	}
}

// So1: a count has one DeclLeast at most; of other kinds there may be several, even the same ones.
func TestCheckOneLeastOfACount(t *testing.T) {
	least := func(count, n int) api.Clause { return api.Clause{Kind: api.DeclLeast, Strict: true, A: count, N: n} }
	between := api.Clause{Kind: api.DeclMost, A: 0}
	may(t, true, with(some(0, 2, 0), least(0, 0), least(1, 0)))
	may(t, true, with(some(0, 2, 0), least(1, -5), between, least(0, -5)))
	may(t, false, with(some(0, 2, 0), least(0, 0), least(0, 0)))
	may(t, false, with(some(0, 2, 0), least(0, 0), least(0, -1)))
	may(t, false, with(some(0, 2, 0), least(1, -3), between, least(1, -2)))
	may(t, false, with(some(0, 2, 0), least(1, 0), least(0, 0), least(1, 0)))
	may(t, true, with(some(0, 4, 0), least(3, 0), least(2, 0), least(1, 0), least(0, 0)))
	for _, c := range []api.Clause{{Kind: api.DeclRef, B: 1}, {Kind: api.DeclBoth, B: 1}, {Kind: api.DeclNeeds}, {Kind: api.DeclLimit}, {Kind: api.DeclMost}} {
		may(t, true, with(some(2, 2, 0), c, c, least(c.A, 0)))
	}
}

// So1: an operation does 1 thing at least; as there are 13 things at most, 13 at most, whatever their bound says.
func TestCheckHowManyDeeds(t *testing.T) {
	all := deedsOfAll()
	for n := range 13 {
		may(t, n > 0, doing(some(6, 4, 3), all[:n]...))
		may(t, n > 0, doing(doing(some(6, 4, 3), all...), all[:n]...))
		may(t, true, doing(some(6, 4, 3), all[n:]...))
	}
	for n := range 30 {
		may(t, n == 0, doing(some(6, 4, 3), slices.Concat(all, slices.Repeat(all[:1], n))...))
		may(t, n == 1, doing(some(6, 4, 3), slices.Repeat(all[:1], n)...))
	}
	may(t, false, api.Rules{Opers: []api.Oper{{Name: "a"}}})
	may(t, false, api.Rules{Opers: []api.Oper{{Name: "a", Does: []api.Doing{}}}})
}

// deed is a deed of a kind to a thing, with a number that may be.
func deed(kind, of int) api.Doing {
	d := api.Doing{Kind: kind, Of: of}
	if kind == api.EffUp || kind == api.EffDown {
		d.N = 1
	}
	return d
}

// So1: an operation does one thing at most to a thing, of whichever kinds and amounts; things of two sorts with one number are two.
func TestCheckOneDeedToAThing(t *testing.T) {
	sorts := [][]int{{api.EffAdd, api.EffDrop}, {api.EffUp, api.EffDown}, {api.EffSet}}
	for i, first := range sorts {
		for j, second := range sorts {
			for _, a := range first {
				for _, b := range second {
					for x := range 3 {
						for y := range 3 {
							apart := i != j || x != y
							may(t, apart, doing(some(3, 3, 3), deed(a, x), deed(b, y)))
							may(t, true, doing(doing(some(3, 3, 3), deed(a, x)), deed(b, y)))
							between := deed(api.EffAdd, 0)
							may(t, apart && (x != 0 || i != 0) && (y != 0 || j != 0), doing(some(3, 3, 3), deed(a, x), between, deed(b, y)))
						}
					}
				}
			}
		}
	}
	may(t, false, doing(some(0, 1, 0), api.Doing{Kind: api.EffUp, N: 1}, api.Doing{Kind: api.EffUp, N: 2}))
	may(t, false, doing(doing(some(0, 1, 0), deed(api.EffUp, 0)), deed(api.EffUp, 0), deed(api.EffDown, 0)))
}

// So1: deeds are of five kinds, to things of their sort, with a number where they go by one.
func TestCheckDeeds(t *testing.T) {
	for _, of := range []int{math.MinInt, -1, 0, 1, 2, 3, 4, 5, math.MaxInt} {
		for _, n := range numbers() {
			for kind := -2; kind < 20; kind++ {
				want := false
				switch kind {
				case api.EffAdd, api.EffDrop:
					want = of >= 0 && of < 4 && n == 0
				case api.EffUp, api.EffDown:
					want = of >= 0 && of < 3 && n >= 1 && n <= 1000
				case api.EffSet:
					want = of >= 0 && of < 2 && n == 0
				}
				d := api.Doing{Kind: kind, Of: of, N: n}
				may(t, want, doing(some(4, 3, 2), d))
				if of != 3 || kind > api.EffDrop {
					may(t, want, doing(some(4, 3, 2), deed(api.EffAdd, 3), d))
				}
			}
		}
	}
	for _, kind := range []int{math.MinInt, math.MaxInt, 256 + api.EffAdd} {
		may(t, false, doing(some(4, 3, 2), api.Doing{Kind: kind}))
	}
}

// R3: rules are not written to, nor is what stands behind their lists.
func TestCheckWritesNothing(t *testing.T) {
	r := whole()
	may(t, true, r)
	if !Same(r, whole()) {
		t.Error("rules were written to")
	}
}
