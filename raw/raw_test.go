package raw

import (
	"fmt"
	"math"
	"slices"
	"strings"
	"testing"

	"huckster/api"
)

const (
	// most is the greatest number that a dot, or a clock, has.
	most = api.MaxSeq
	// far is how far above, or below, nought a number of a count is at most.
	far = 1 << 40
)

func dot(rep, seq int) api.Dot { return api.Dot{Rep: rep, Seq: seq} }

func list(l ...api.Dot) []api.Dot { return l }

func live(key string, l ...api.Dot) api.Entry { return api.Entry{Key: key, Live: l} }

func dead(key string, l ...api.Dot) api.Entry { return api.Entry{Key: key, Dead: l} }

func both(key string, live, dead []api.Dot) api.Entry {
	return api.Entry{Key: key, Live: live, Dead: dead}
}

func account(key string, have ...int) api.Account {
	x := api.Account{Key: key}
	copy(x.Have[:], have)
	return x
}

func note(key string, at, rep int, word string) api.Note {
	return api.Note{Key: key, At: at, Rep: rep, Word: word}
}

func floor(at int) api.Floor { return api.Floor{Is: true, At: at} }

// all is a clock that has every dot.
func all() api.Clock { return api.Clock{most, most, most, most, most} }

func manyKey(i int) string { return fmt.Sprintf("%04d", i) }

// filled is n things of keys that rise.
func filled[T any](n int, make func(key string, i int) T) []T {
	var l []T
	for i := range n {
		l = append(l, make(manyKey(i), i))
	}
	return l
}

func manyLive(n int) []api.Entry {
	return filled(n, func(key string, i int) api.Entry { return live(key, dot(1, i+1)) })
}

func manyDead(n int) []api.Entry {
	return filled(n, func(key string, i int) api.Entry { return dead(key, dot(1, i+1)) })
}

func manyCells(n int) []api.Cell {
	return filled(n, func(key string, i int) api.Cell { return api.Cell{Key: key, N: i + 1} })
}

func manyAccounts(n int) []api.Account {
	return filled(n, func(key string, i int) api.Account { return account(key, i+1) })
}

func manyNotes(n int) []api.Note {
	return filled(n, func(key string, i int) api.Note { return note(key, i+1, 1, "w") })
}

// text is all that raw has, as a text: raws are held against each other without the package's own functions.
func text(w api.Raw) string {
	var b strings.Builder
	for i, s := range w.Sets {
		fmt.Fprintf(&b, "set %d:", i)
		for _, x := range s {
			fmt.Fprintf(&b, " %q live %v dead %v,", x.Key, x.Live, x.Dead)
		}
	}
	for i, l := range w.Tallies {
		fmt.Fprintf(&b, "; tally %d:", i)
		for _, x := range l {
			fmt.Fprintf(&b, " %q %d,", x.Key, x.N)
		}
	}
	for i, l := range w.Accounts {
		fmt.Fprintf(&b, "; accounts %d:", i)
		for _, x := range l {
			fmt.Fprintf(&b, " %q %v,", x.Key, x.Have)
		}
	}
	for i, l := range w.Regs {
		fmt.Fprintf(&b, "; register %d:", i)
		for _, x := range l {
			fmt.Fprintf(&b, " %q %d %d %q,", x.Key, x.At, x.Rep, x.Word)
		}
	}
	return b.String()
}

// brief is a text of which so much is told that a failure can be read.
func brief(w api.Raw) string {
	s := text(w)
	return s[:min(len(s), 1000)]
}

// hold tells whether an answer is the raw that is asked for.
func hold(t *testing.T, what string, got api.Raw, e api.Errno, want api.Raw) {
	t.Helper()
	if e != api.OK || text(got) != text(want) {
		t.Errorf("%s: got %s, %d, want %s", what, brief(got), e, brief(want))
	}
}

// isZero tells whether raw is the zero value, or as that.
func isZero(w api.Raw) bool {
	return len(w.Sets)+len(w.Tallies)+len(w.Accounts)+len(w.Regs) == 0
}

// refuse tells whether an answer is an error, and nothing beside it.
func refuse(t *testing.T, what string, got api.Raw, e, want api.Errno) {
	t.Helper()
	if e != want || !isZero(got) {
		t.Errorf("%s: got %s, %d, want nothing, %d", what, brief(got), e, want)
	}
}

// rightKinds are kinds that may be.
func rightKinds() []api.Kinds {
	l := []api.Kinds{
		{}, {Sets: []bool{}, Counts: []api.Floor{}}, mixed(), greatest(),
		{Sets: []bool{false}}, {Sets: []bool{true}}, {Sets: make([]bool, 5)}, {Sets: make([]bool, 6)}, {Sets: []bool{true, true, true, true, true, true}},
		{Counts: make([]api.Floor, 3)}, {Counts: make([]api.Floor, 4)}, {Counts: []api.Floor{floor(0), floor(-1000), floor(-1), floor(-999)}},
	}
	for n := range 4 {
		l = append(l, api.Kinds{Regs: n})
	}
	for _, f := range []api.Floor{{}, floor(0), floor(-1), floor(-1000)} {
		l = append(l, api.Kinds{Counts: []api.Floor{f}}, api.Kinds{Counts: []api.Floor{{}, f, floor(-7)}})
	}
	return l
}

// wrongKinds are kinds that may not be, each for one reason alone.
func wrongKinds() []api.Kinds {
	l := []api.Kinds{
		{Sets: make([]bool, 7)}, {Sets: []bool{true, true, true, true, true, true, true}}, {Sets: make([]bool, 1000)},
		{Counts: make([]api.Floor, 5)}, {Counts: []api.Floor{floor(0), floor(0), floor(0), floor(0), floor(0)}}, {Counts: make([]api.Floor, 1000)},
	}
	for _, n := range []int{4, 5, -1, -3, math.MaxInt, math.MinInt} {
		l = append(l, api.Kinds{Regs: n}, api.Kinds{Sets: []bool{true}, Counts: []api.Floor{floor(-1)}, Regs: n})
	}
	wrong := []api.Floor{floor(1), floor(1000), floor(-1001), floor(math.MaxInt), floor(math.MinInt)}
	for _, at := range []int{1, -1, -1000, 1000, math.MaxInt, math.MinInt} {
		wrong = append(wrong, api.Floor{At: at})
	}
	for _, f := range wrong {
		l = append(l, api.Kinds{Counts: []api.Floor{f}}, api.Kinds{Counts: []api.Floor{f, {}, floor(-1)}}, api.Kinds{Counts: []api.Floor{{}, floor(-1), floor(0), f}})
	}
	return l
}

// mixed is kinds with two of each thing, of each sort one.
func mixed() api.Kinds {
	return api.Kinds{Sets: []bool{false, true}, Counts: []api.Floor{{}, floor(-5)}, Regs: 2}
}

// greatest is kinds with as many things as may be.
func greatest() api.Kinds {
	return api.Kinds{Sets: []bool{false, true, false, true, true, false}, Counts: []api.Floor{floor(-1000), {}, floor(0), {}}, Regs: 3}
}

// some is raw of mixed kinds that has something in each thing.
func some() api.Raw {
	return api.Raw{
		Sets: [][]api.Entry{
			{live("a", dot(1, 1)), live("b", dot(1, 2), dot(2, 1))},
			{dead("a", dot(1, 3), dot(4, 1)), both("b", list(dot(2, 2), dot(3, 2)), list(dot(1, 4))), live("c", dot(3, 1))},
		},
		Tallies:  [][]api.Cell{{{Key: "a", N: 3}, {Key: "b", N: -4}}, nil},
		Accounts: [][]api.Account{nil, {account("a", 2, -1), account("b", -5, 0, 0, 0, 1)}},
		Regs:     [][]api.Note{{note("a", 4, 1, "x")}, {note("b", 7, 2, ""), note("c", 1, 5, "\xff")}},
	}
}

// but is raw of mixed kinds, as some, with a change.
func but(change func(w *api.Raw)) api.Raw {
	w := some()
	change(&w)
	return w
}

// nothing is raw of some kinds that has nothing, without the package's functions.
func nothing(k api.Kinds) api.Raw {
	return api.Raw{
		Sets:     make([][]api.Entry, len(k.Sets)),
		Tallies:  make([][]api.Cell, len(k.Counts)),
		Accounts: make([][]api.Account, len(k.Counts)),
		Regs:     make([][]api.Note, max(k.Regs, 0)%100),
	}
}

// of is kinds and raw.
type of struct {
	k api.Kinds
	w api.Raw
}

// rightRaws are kinds and raw that may be by them.
func rightRaws() []of {
	l := []of{
		{mixed(), some()},
		{mixed(), api.Raw{Sets: [][]api.Entry{{}, {}}, Tallies: [][]api.Cell{{}, {}}, Accounts: [][]api.Account{{}, {}}, Regs: [][]api.Note{{}, {}}}},
		{api.Kinds{}, api.Raw{Sets: [][]api.Entry{}, Tallies: [][]api.Cell{}, Accounts: [][]api.Account{}, Regs: [][]api.Note{}}},
		{mixed(), but(func(w *api.Raw) { w.Sets[1] = []api.Entry{dead("a", dot(1, 1))} })},
		{mixed(), but(func(w *api.Raw) { w.Sets[0] = []api.Entry{both("a", list(dot(1, 1)), []api.Dot{})} })},
		{mixed(), but(func(w *api.Raw) { w.Tallies[1], w.Accounts[0] = []api.Cell{}, []api.Account{} })},
		{mixed(), but(func(w *api.Raw) { w.Tallies[0] = []api.Cell{{Key: "a", N: far}, {Key: "b", N: -far}} })},
		{mixed(), but(func(w *api.Raw) { w.Accounts[1] = []api.Account{account("a", far, -far)} })},
		{mixed(), but(func(w *api.Raw) { w.Regs[1] = []api.Note{note("a", far, 5, strings.Repeat("w", 64))} })},
		{mixed(), api.Raw{Sets: [][]api.Entry{manyLive(4000), manyDead(4000)}, Tallies: [][]api.Cell{manyCells(4000), nil}, Accounts: [][]api.Account{nil, manyAccounts(4000)}, Regs: [][]api.Note{manyNotes(4000), nil}}},
	}
	for _, k := range rightKinds() {
		l = append(l, of{k, nothing(k)}, of{k, something(k)})
	}
	return l
}

// something is raw of some kinds in which each thing has a key.
func something(k api.Kinds) api.Raw {
	w := nothing(k)
	for i, dropHolds := range k.Sets {
		w.Sets[i] = []api.Entry{live("k", dot(1, i+1))}
		if dropHolds {
			w.Sets[i][0].Dead = list(dot(2, i+1))
		}
	}
	for i, f := range k.Counts {
		if f.Is {
			w.Accounts[i] = []api.Account{account("k", i+1, -i)}
		} else {
			w.Tallies[i] = []api.Cell{{Key: "k", N: -i - 1}}
		}
	}
	for i := range w.Regs {
		w.Regs[i] = []api.Note{note("k", i+1, 1, "w")}
	}
	return w
}

// wrongSizes are raws of mixed kinds that have a thing too few, or too many.
func wrongSizes() []api.Raw {
	return []api.Raw{
		{},
		but(func(w *api.Raw) { w.Sets = w.Sets[:1] }), but(func(w *api.Raw) { w.Sets = nil }), but(func(w *api.Raw) { w.Sets = append(w.Sets, nil) }),
		but(func(w *api.Raw) { w.Sets = append(w.Sets, []api.Entry{live("k", dot(1, 1))}) }),
		but(func(w *api.Raw) { w.Tallies = w.Tallies[:1] }), but(func(w *api.Raw) { w.Tallies = nil }), but(func(w *api.Raw) { w.Tallies = append(w.Tallies, nil) }),
		but(func(w *api.Raw) { w.Accounts = w.Accounts[:1] }), but(func(w *api.Raw) { w.Accounts = nil }), but(func(w *api.Raw) { w.Accounts = append(w.Accounts, nil) }),
		but(func(w *api.Raw) { w.Regs = w.Regs[:1] }), but(func(w *api.Raw) { w.Regs = nil }), but(func(w *api.Raw) { w.Regs = append(w.Regs, nil) }),
	}
}

// wrongSets are sets that may not be, whether a drop holds there or an add.
func wrongSets() [][]api.Entry {
	one := dot(1, 1)
	return [][]api.Entry{
		{live("k")}, {live("", one)}, {live(strings.Repeat("k", 33), one)}, {live("b", one), live("a", one)}, {live("a", one), live("a", one)},
		{live("k", dot(0, 1))}, {live("k", dot(6, 1))}, {live("k", dot(1, 0))}, {live("k", dot(1, most+1))}, {live("k", dot(1, 2), one)}, {live("k", one, one)}, manyLive(4001),
	}
}

// wrongDeads are sets that may not be for what Dead they have, where a drop holds.
func wrongDeads() [][]api.Entry {
	one := dot(1, 1)
	return [][]api.Entry{{dead("k", dot(6, 1))}, {dead("k", dot(1, 2), one)}, {dead("", one)}, {both("k", list(one), list(one, one))}, manyDead(4001)}
}

func wrongTallies() [][]api.Cell {
	return [][]api.Cell{
		{{Key: "k"}}, {{Key: "", N: 1}}, {{Key: strings.Repeat("k", 33), N: 1}}, {{Key: "b", N: 1}, {Key: "a", N: 1}}, {{Key: "a", N: 1}, {Key: "a", N: 1}},
		{{Key: "k", N: far + 1}}, {{Key: "k", N: -far - 1}}, {{Key: "k", N: math.MinInt}}, manyCells(4001),
	}
}

func wrongAccounts() [][]api.Account {
	return [][]api.Account{
		{account("k")}, {account("", 1)}, {account(strings.Repeat("k", 33), 1)}, {account("b", 1), account("a", 1)}, {account("a", 1), account("a", 1)},
		{account("k", far+1)}, {account("k", 0, 0, 0, 0, -far-1)}, {account("k", 1, math.MaxInt)}, manyAccounts(4001),
	}
}

func wrongRegisters() [][]api.Note {
	return [][]api.Note{
		{{}}, {note("", 1, 1, "")}, {note(strings.Repeat("k", 33), 1, 1, "")}, {note("b", 1, 1, ""), note("a", 1, 1, "")}, {note("a", 1, 1, ""), note("a", 2, 1, "")},
		{note("k", 0, 1, "")}, {note("k", far+1, 1, "")}, {note("k", 1, 0, "")}, {note("k", 1, 6, "")}, {note("k", 1, 1, strings.Repeat("w", 65))}, manyNotes(4001),
	}
}

// wrongRaws are kinds and raw of which that may not be, or both; each for one reason alone.
func wrongRaws() []of {
	var l []of
	for _, w := range wrongSizes() {
		l = append(l, of{mixed(), w})
	}
	put := func(k api.Kinds, change func(w *api.Raw)) {
		w := something(k)
		change(&w)
		l = append(l, of{k, w})
	}
	// What may not be stands in each place in turn, so that all of them must be looked at.
	g := greatest()
	for i, dropHolds := range g.Sets {
		wrong := append(wrongSets(), []api.Entry{dead("k", dot(1, 1))}, []api.Entry{both("k", list(dot(1, 2)), list(dot(1, 1)))})
		if dropHolds {
			wrong = append(wrongSets(), wrongDeads()...)
		}
		for _, s := range wrong {
			put(g, func(w *api.Raw) { w.Sets[i] = s })
		}
	}
	for i, f := range g.Counts {
		if !f.Is {
			for _, s := range wrongTallies() {
				put(g, func(w *api.Raw) { w.Tallies[i] = s })
			}
			put(g, func(w *api.Raw) { w.Accounts[i] = []api.Account{account("k", 1)} })
			put(g, func(w *api.Raw) { w.Tallies[i], w.Accounts[i] = nil, []api.Account{account("k", 1)} })
			continue
		}
		for _, s := range wrongAccounts() {
			put(g, func(w *api.Raw) { w.Accounts[i] = s })
		}
		put(g, func(w *api.Raw) { w.Tallies[i] = []api.Cell{{Key: "k", N: 1}} })
		put(g, func(w *api.Raw) { w.Accounts[i], w.Tallies[i] = nil, []api.Cell{{Key: "k", N: 1}} })
	}
	for i := range g.Regs {
		for _, s := range wrongRegisters() {
			put(g, func(w *api.Raw) { w.Regs[i] = s })
		}
	}
	// Kinds that may not be, with as many things as they say.
	for _, k := range wrongKinds() {
		l = append(l, of{k, nothing(k)})
	}
	return append(l, of{wrongKinds()[0], api.Raw{}}, of{wrongKinds()[0], some()})
}

// Ra1: CheckKinds tells whether kinds may be; New's raw has nothing, as many times as there are things.
func TestKindsAndNew(t *testing.T) {
	for i, k := range rightKinds() {
		if e := CheckKinds(k); e != api.OK {
			t.Errorf("right kinds %d: got %d", i, e)
		}
		w, e := New(k)
		hold(t, fmt.Sprintf("New of right kinds %d", i), w, e, nothing(k))
		if len(w.Sets) != len(k.Sets) || len(w.Tallies) != len(k.Counts) || len(w.Accounts) != len(k.Counts) || len(w.Regs) != k.Regs || Check(k, w) != api.OK {
			t.Errorf("New of right kinds %d: %s", i, text(w))
		}
	}
	for i, k := range wrongKinds() {
		if e := CheckKinds(k); e != api.ErrArg {
			t.Errorf("wrong kinds %d: got %d", i, e)
		}
		w, e := New(k)
		refuse(t, fmt.Sprintf("New of wrong kinds %d", i), w, e, api.ErrArg)
	}
}

// Ra1: Check tells whether raw may be, by kinds that may be.
func TestCheck(t *testing.T) {
	for i, x := range rightRaws() {
		if e := Check(x.k, x.w); e != api.OK {
			t.Errorf("right raw %d: got %d of %s", i, e, brief(x.w))
		}
	}
	for i, x := range wrongRaws() {
		if e := Check(x.k, x.w); e != api.ErrArg {
			t.Errorf("wrong raw %d: got %d of %s", i, e, brief(x.w))
		}
	}
}

// Ra1: what may be hangs on the kinds: of which sort each thing is.
func TestCheckByOtherKinds(t *testing.T) {
	for what, change := range map[string]func(k *api.Kinds){
		"an add holds where Dead are":   func(k *api.Kinds) { k.Sets[1] = false },
		"a floor where a tally is":      func(k *api.Kinds) { k.Counts[0] = floor(0) },
		"no floor where an account is":  func(k *api.Kinds) { k.Counts[1] = api.Floor{} },
		"counts the other way round":    func(k *api.Kinds) { slices.Reverse(k.Counts) },
		"sets the other way round":      func(k *api.Kinds) { slices.Reverse(k.Sets) },
		"a register more":               func(k *api.Kinds) { k.Regs++ },
		"a register less":               func(k *api.Kinds) { k.Regs-- },
		"a count more":                  func(k *api.Kinds) { k.Counts = append(k.Counts, api.Floor{}) },
		"a set more":                    func(k *api.Kinds) { k.Sets = append(k.Sets, false) },
		"a set less":                    func(k *api.Kinds) { k.Sets = k.Sets[:1] },
		"a count less":                  func(k *api.Kinds) { k.Counts = k.Counts[:1] },
		"a floor that is too far below": func(k *api.Kinds) { k.Counts[1] = floor(-1001) },
	} {
		k := mixed()
		change(&k)
		if e := Check(k, some()); e != api.ErrArg {
			t.Errorf("%s: got %d", what, e)
		}
	}
	k := mixed()
	k.Sets[0], k.Counts[1] = true, floor(-1000)
	if e := Check(k, some()); e != api.OK {
		t.Errorf("a drop holds where Live alone are, another floor: got %d", e)
	}
}

// parted are raws that part from some in one thing alone.
func parted() []api.Raw {
	return []api.Raw{
		but(func(w *api.Raw) { w.Sets[0][0].Key = "A" }), but(func(w *api.Raw) { w.Sets[0][0].Live[0].Seq = 2 }), but(func(w *api.Raw) { w.Sets[0][1].Live[1].Rep = 3 }),
		but(func(w *api.Raw) { w.Sets[0][1].Live = w.Sets[0][1].Live[:1] }), but(func(w *api.Raw) { w.Sets[0] = w.Sets[0][:1] }), but(func(w *api.Raw) { w.Sets[0] = nil }),
		but(func(w *api.Raw) { w.Sets[1][1].Live[0].Seq = 9 }), but(func(w *api.Raw) { w.Sets[1][2].Key = "d" }), but(func(w *api.Raw) { w.Sets[1] = w.Sets[1][:2] }),
		but(func(w *api.Raw) { w.Tallies[0][0].Key = "A" }), but(func(w *api.Raw) { w.Tallies[0][0].N = -3 }), but(func(w *api.Raw) { w.Tallies[0][1].N = 4 }), but(func(w *api.Raw) { w.Tallies[0] = w.Tallies[0][:1] }),
		but(func(w *api.Raw) { w.Accounts[1][0].Key = "A" }), but(func(w *api.Raw) { w.Accounts[1][0].Have[0] = -2 }), but(func(w *api.Raw) { w.Accounts[1][0].Have[4] = 1 }), but(func(w *api.Raw) { w.Accounts[1] = w.Accounts[1][1:] }),
		but(func(w *api.Raw) { w.Regs[0][0].Key = "A" }), but(func(w *api.Raw) { w.Regs[0][0].At = 5 }), but(func(w *api.Raw) { w.Regs[0][0].Rep = 2 }), but(func(w *api.Raw) { w.Regs[0][0].Word = "" }),
		but(func(w *api.Raw) { w.Regs[1][1].Word = "\xfe" }), but(func(w *api.Raw) { w.Regs[1] = w.Regs[1][:1] }), but(func(w *api.Raw) { w.Regs[0], w.Regs[1] = w.Regs[1], w.Regs[0] }),
	}
}

// partedByDead are raws that part from some in what Dead they have alone: plain, they are as it.
func partedByDead() []api.Raw {
	return []api.Raw{
		but(func(w *api.Raw) { w.Sets[1][0].Dead[0].Seq = 2 }), but(func(w *api.Raw) { w.Sets[1][0].Dead = w.Sets[1][0].Dead[:1] }),
		but(func(w *api.Raw) { w.Sets[1][1].Dead[0].Rep = 2 }), but(func(w *api.Raw) { w.Sets[1][1].Dead = nil }), but(func(w *api.Raw) { w.Sets[1][2].Dead = list(dot(1, 1)) }),
		but(func(w *api.Raw) { w.Sets[1] = w.Sets[1][1:] }), but(func(w *api.Raw) { w.Sets[1][0].Key = "0" }),
	}
}

// Ra2: Same tells whether raws are alike, whether they may be or not.
func TestSame(t *testing.T) {
	var l []api.Raw
	for _, x := range slices.Concat(rightRaws()[:1], wrongRaws()[:40]) {
		l = append(l, x.w)
	}
	l = slices.Concat(l, parted(), partedByDead())
	for _, n := range []int{0, 1, 2} {
		l = append(l, api.Raw{Sets: make([][]api.Entry, n), Tallies: make([][]api.Cell, 1)}, api.Raw{Tallies: make([][]api.Cell, 2+n)}, api.Raw{Accounts: make([][]api.Account, 1+n)}, api.Raw{Regs: make([][]api.Note, 1+n)})
	}
	for i, a := range l {
		for j, b := range l {
			if got := Same(copied(a), b); got != (text(a) == text(b)) {
				t.Errorf("%d and %d: got %v of %s and %s", i, j, got, brief(a), brief(b))
			}
		}
	}
	for i, w := range slices.Concat(parted(), partedByDead()) {
		if Same(some(), w) || Same(w, some()) {
			t.Errorf("parted %d: the same as %s", i, brief(w))
		}
	}
	if !Same(some(), some()) || !Same(api.Raw{}, api.Raw{}) {
		t.Error("raws that are alike are not the same")
	}
}

// R5: no list is as an empty one, of things, and in them.
func TestSameOfNoLists(t *testing.T) {
	none := api.Raw{Sets: [][]api.Entry{}, Tallies: [][]api.Cell{}, Accounts: [][]api.Account{}, Regs: [][]api.Note{}}
	if !Same(api.Raw{}, none) || !Same(none, api.Raw{}) {
		t.Error("of no things")
	}
	k := mixed()
	empty := nothing(k)
	for i := range 2 {
		empty.Sets[i], empty.Tallies[i], empty.Accounts[i], empty.Regs[i] = []api.Entry{}, []api.Cell{}, []api.Account{}, []api.Note{}
	}
	if !Same(nothing(k), empty) || !Same(empty, nothing(k)) || Same(empty, none) || Same(none, nothing(k)) {
		t.Error("of things that have nothing")
	}
	w := but(func(w *api.Raw) { w.Sets[0][0].Dead, w.Sets[1][0].Live = []api.Dot{}, []api.Dot{} })
	if !Same(w, some()) || !Same(some(), w) {
		t.Error("of keys")
	}
}
