package raw

import (
	"fmt"
	"math"
	"slices"
	"strings"
	"testing"

	"huckster/api"
)

func add(of int, key string) api.Effect { return api.Effect{Kind: api.EffAdd, Of: of, Key: key} }

func drop(of int, key string) api.Effect { return api.Effect{Kind: api.EffDrop, Of: of, Key: key} }

func up(of int, key string, n int) api.Effect {
	return api.Effect{Kind: api.EffUp, Of: of, Key: key, N: n}
}

func down(of int, key string, n int) api.Effect {
	return api.Effect{Kind: api.EffDown, Of: of, Key: key, N: n}
}

func move(of int, key string, n, to int) api.Effect {
	return api.Effect{Kind: api.EffMove, Of: of, Key: key, N: n, To: to}
}

func setTo(of int, key, word string) api.Effect {
	return api.Effect{Kind: api.EffSet, Of: of, Key: key, Word: word}
}

// deed is an event of a replica: its next one behind its Past.
func deed(rep int, past api.Clock, l ...api.Effect) api.Event {
	seq := 1
	if rep <= len(past) {
		seq += past[rep-1]
	}
	return api.Event{Dot: dot(rep, seq), Past: past, Effects: l}
}

// ofEach is one effect of each kind, of those things.
func ofEach(set, count, account, register int) []api.Effect {
	return []api.Effect{add(set, "k"), drop(set, "k"), up(count, "k", 1), down(count, "k", 1), move(account, "k", 1, 2), setTo(register, "k", "w")}
}

// wrongEffects are effects that may not be, whatever things there are.
func wrongEffects() []api.Effect {
	return []api.Effect{
		{}, {Key: "k"}, {Kind: 7, Key: "k"}, {Kind: -1, Key: "k"}, add(-1, "k"), add(16, "k"), add(math.MaxInt, "k"), setTo(math.MinInt, "k", ""), add(0, ""), drop(1, strings.Repeat("k", 33)),
		up(0, "k", 0), up(0, "k", 1001), up(0, "k", -1), down(0, "k", 0), down(1, "k", 1001), move(1, "k", 0, 1), move(1, "k", 1001, 1), move(1, "k", 1, 0), move(1, "k", 1, 6),
		setTo(0, "k", strings.Repeat("w", 65)), {Kind: api.EffAdd, Key: "k", N: 1}, {Kind: api.EffDrop, Key: "k", Word: "w"}, {Kind: api.EffUp, Key: "k", N: 1, To: 1}, {Kind: api.EffSet, Key: "k", N: 1},
	}
}

// wrongEvents are events that may not be.
func wrongEvents() []api.Event {
	x := add(0, "k")
	l := []api.Event{
		{}, deed(1, nil), {Dot: dot(1, 1), Effects: []api.Effect{}}, deed(1, nil, slices.Repeat([]api.Effect{x}, 17)...),
		{Effects: []api.Effect{x}}, {Dot: dot(6, 1), Effects: []api.Effect{x}}, {Dot: dot(1, most+1), Past: api.Clock{most}, Effects: []api.Effect{x}},
		{Dot: dot(1, 2), Effects: []api.Effect{x}}, {Dot: dot(1, 1), Past: api.Clock{1}, Effects: []api.Effect{x}}, {Dot: dot(2, 1), Past: api.Clock{0, 1}, Effects: []api.Effect{x}},
		deed(1, api.Clock{1, 0}, x), deed(1, api.Clock{0}, x), deed(1, api.Clock{1, -1, 2}, x), deed(1, api.Clock{0, 0, 0, 0, 0, 1}, x), deed(2, api.Clock{most + 1}, x),
	}
	for _, wrong := range wrongEffects() {
		l = append(l, deed(1, nil, wrong), deed(1, nil, wrong, x), deed(1, nil, x, up(0, "k", 1), wrong))
	}
	return l
}

// unfit are effects that may be, of things that mixed kinds have not.
func unfit() []api.Effect {
	return slices.Concat(ofEach(2, 2, 2, 2), ofEach(3, 3, 3, 3), ofEach(15, 15, 15, 15), []api.Effect{move(0, "k", 1, 2), move(0, "k", 1, 1)})
}

// Ra1: effects fit, if there is the thing of each of them; EffMove: of a count with a floor.
func TestFits(t *testing.T) {
	for i, x := range slices.Concat(ofEach(0, 0, 1, 0), ofEach(1, 1, 1, 1)) {
		if !Fits(mixed(), deed(1, nil, x)) || !Fits(mixed(), deed(3, api.Clock{4, 5, 6}, x, x)) {
			t.Errorf("effect %d does not fit", i)
		}
	}
	if !Fits(mixed(), deed(1, nil, slices.Concat(ofEach(0, 0, 1, 0), ofEach(1, 1, 1, 1))...)) {
		t.Error("all effects do not fit")
	}
	for i, x := range unfit() {
		for j, e := range []api.Event{deed(1, nil, x), deed(1, nil, x, add(0, "k")), deed(1, nil, add(0, "k"), up(1, "k", 1), x), deed(1, nil, add(0, "k"), x, setTo(1, "k", "w"))} {
			if Fits(mixed(), e) {
				t.Errorf("effect %d fits, in event %d", i, j)
			}
			w, err := Apply(mixed(), some(), e)
			refuse(t, fmt.Sprintf("effect %d, event %d", i, j), w, err, api.ErrSort)
		}
	}
}

// Ra1: the last thing of each sort is there, the next one is not, however many there are.
func TestFitsLastAndNext(t *testing.T) {
	for n := range api.MaxSets + 1 {
		for i := range api.MaxSets + 2 {
			counts, regs := min(n, api.MaxCounts), min(n, api.MaxRegs)
			k := api.Kinds{Sets: make([]bool, n), Counts: slices.Repeat([]api.Floor{floor(-1)}, counts), Regs: regs}
			w := nothing(k)
			for _, c := range []struct {
				x    api.Effect
				fits bool
			}{
				{add(i, "k"), i < n}, {drop(i, "k"), i < n}, {up(i, "k", 1), i < counts}, {down(i, "k", 1), i < counts}, {move(i, "k", 1, 2), i < counts}, {setTo(i, "k", ""), i < regs},
			} {
				e := deed(1, nil, c.x)
				if Fits(k, e) != c.fits {
					t.Errorf("%d things, %v: fits is %v", n, c.x, !c.fits)
				}
				got, err := Apply(k, w, e)
				if !c.fits {
					refuse(t, fmt.Sprintf("%d things, %v", n, c.x), got, err, api.ErrSort)
				} else if err != api.OK || Check(k, got) != api.OK {
					t.Errorf("%d things, %v: got %d", n, c.x, err)
				}
			}
		}
	}
}

// Ra1: EffMove fits counts with a floor alone, whichever.
func TestFitsMove(t *testing.T) {
	k := greatest()
	for i, f := range k.Counts {
		if got := Fits(k, deed(1, nil, move(i, "k", 1, 2))); got != f.Is {
			t.Errorf("count %d: got %v", i, got)
		}
		if !Fits(k, deed(1, nil, up(i, "k", 1), down(i, "k", 1))) {
			t.Errorf("count %d: up and down do not fit", i)
		}
	}
}

// Ra1: nothing fits that may not be, nor kinds that may not be; Apply answers ErrArg, with an error of fitting too.
func TestWrongArguments(t *testing.T) {
	fine := deed(1, nil, setTo(0, "k", "w"))
	lone := api.Kinds{Sets: []bool{false}, Regs: 1}
	for i, e := range wrongEvents() {
		for j, k := range []api.Kinds{mixed(), lone, {}, wrongKinds()[0]} {
			if Fits(k, e) {
				t.Errorf("wrong event %d fits kinds %d", i, j)
			}
			w, err := Apply(k, something(k), e)
			refuse(t, fmt.Sprintf("wrong event %d, kinds %d", i, j), w, err, api.ErrArg)
		}
		w, err := Apply(mixed(), api.Raw{}, e)
		refuse(t, fmt.Sprintf("wrong event %d, no raw", i), w, err, api.ErrArg)
	}
	for i, k := range wrongKinds() {
		for j, e := range []api.Event{deed(1, nil, add(0, "k")), deed(1, nil, up(0, "k", 1)), fine, {}} {
			if Fits(k, e) {
				t.Errorf("event %d fits wrong kinds %d", j, i)
			}
			w, err := Apply(k, nothing(k), e)
			refuse(t, fmt.Sprintf("wrong kinds %d, event %d", i, j), w, err, api.ErrArg)
		}
	}
	for i, x := range wrongRaws() {
		for j, e := range []api.Event{fine, {}, deed(1, nil, add(15, "k")), deed(1, nil, move(1, "k", 1, 1))} {
			w, err := Apply(x.k, x.w, e)
			refuse(t, fmt.Sprintf("wrong raw %d, event %d", i, j), w, err, api.ErrArg)
		}
	}
}

// Ra1: Fits does not ask for raw; it is told of an event that a full thing refuses, too.
func TestFitsAndFull(t *testing.T) {
	k := mixed()
	w := rightRaws()[9].w
	for i, x := range []api.Effect{add(0, "new"), add(1, "new"), drop(1, "new"), up(0, "new", 1), down(0, "new", 1), up(1, "new", 1), down(1, "new", 1), move(1, "new", 1, 2), setTo(0, "new", "")} {
		e := deed(1, nil, x)
		if !Fits(k, e) {
			t.Errorf("effect %d does not fit", i)
		}
		got, err := Apply(k, w, e)
		refuse(t, fmt.Sprintf("full, effect %d", i), got, err, api.ErrFull)
		// What does not fit is told ahead of what is refused, wherever it stands.
		for _, l := range [][]api.Effect{{x, setTo(2, "k", "")}, {add(2, "k"), x}} {
			got, err = Apply(k, w, deed(1, nil, l...))
			refuse(t, fmt.Sprintf("full and unfit, effect %d", i), got, err, api.ErrSort)
		}
	}
	// A drop where an add holds, a move to one's own, and keys that are there, take no more room.
	for i, x := range []api.Effect{drop(0, "new"), move(1, "new", 1, 1), add(0, manyKey(7)), add(1, manyKey(7)), drop(1, manyKey(7)), up(0, manyKey(7), 1), down(1, manyKey(7), 1), move(1, manyKey(7), 1, 2), setTo(0, manyKey(7), "")} {
		if got, err := Apply(k, w, deed(1, nil, x)); err != api.OK || Check(k, got) != api.OK {
			t.Errorf("full, effect %d that takes no room: got %d", i, err)
		}
	}
}

// Ra1: the effects of one event on each thing, by the chapters of the things.
func TestEffects(t *testing.T) {
	for i, c := range []struct {
		e    api.Event
		want api.Raw
	}{
		// An add lets go of the Live that its Past has.
		{deed(1, api.Clock{2}, add(0, "b")), but(func(w *api.Raw) { w.Sets[0][1].Live = list(dot(1, 3), dot(2, 1)) })},
		{deed(1, api.Clock{2, 1}, add(0, "b")), but(func(w *api.Raw) { w.Sets[0][1].Live = list(dot(1, 3)) })},
		{deed(3, nil, add(0, "c")), but(func(w *api.Raw) { w.Sets[0] = append(w.Sets[0], live("c", dot(3, 1))) })},
		{deed(3, nil, add(0, "c"), add(0, "c")), but(func(w *api.Raw) { w.Sets[0] = append(w.Sets[0], live("c", dot(3, 1))) })},
		// A drop too.
		{deed(1, api.Clock{2}, drop(0, "b")), but(func(w *api.Raw) { w.Sets[0][1].Live = list(dot(2, 1)) })},
		{deed(3, api.Clock{2, 1}, drop(0, "b")), but(func(w *api.Raw) { w.Sets[0] = w.Sets[0][:1] })},
		{deed(3, nil, drop(0, "b")), some()},
		{deed(3, nil, drop(0, "c")), some()},
		// Where a drop holds, an add does nothing, unless its Past has all Dead.
		{deed(2, api.Clock{3}, add(1, "a")), some()},
		{deed(2, api.Clock{3, 0, 0, 1}, add(1, "a")), but(func(w *api.Raw) { w.Sets[1][0].Live = list(dot(2, 1)) })},
		{deed(2, api.Clock{4, 2}, add(1, "b")), but(func(w *api.Raw) { w.Sets[1][1].Live = list(dot(2, 3), dot(3, 2)) })},
		{deed(2, nil, add(1, "d")), but(func(w *api.Raw) { w.Sets[1] = append(w.Sets[1], live("d", dot(2, 1))) })},
		{deed(2, nil, drop(1, "b")), but(func(w *api.Raw) { w.Sets[1][1] = dead("b", dot(1, 4), dot(2, 1)) })},
		{deed(2, api.Clock{4}, drop(1, "b")), but(func(w *api.Raw) { w.Sets[1][1] = dead("b", dot(2, 1)) })},
		{deed(2, nil, drop(1, "d"), drop(1, "d")), but(func(w *api.Raw) { w.Sets[1] = append(w.Sets[1], dead("d", dot(2, 1))) })},
		// Counts.
		{deed(2, nil, up(0, "a", 4)), but(func(w *api.Raw) { w.Tallies[0][0].N = 7 })},
		{deed(2, nil, down(0, "a", 4)), but(func(w *api.Raw) { w.Tallies[0][0].N = -1 })},
		{deed(2, nil, down(0, "a", 3)), but(func(w *api.Raw) { w.Tallies[0] = w.Tallies[0][1:] })},
		{deed(2, nil, down(0, "c", 1000)), but(func(w *api.Raw) { w.Tallies[0] = append(w.Tallies[0], api.Cell{Key: "c", N: -1000}) })},
		{deed(2, nil, up(0, "a", 4), down(0, "b", 2), up(0, "a", 1)), but(func(w *api.Raw) { w.Tallies[0][0].N, w.Tallies[0][1].N = 8, -6 })},
		{deed(2, nil, up(1, "a", 4)), but(func(w *api.Raw) { w.Accounts[1][0].Have[1] = 3 })},
		{deed(1, nil, down(1, "a", 1000)), but(func(w *api.Raw) { w.Accounts[1][0].Have[0] = -998 })},
		{deed(5, nil, down(1, "c", 9)), but(func(w *api.Raw) { w.Accounts[1] = append(w.Accounts[1], account("c", 0, 0, 0, 0, -9)) })},
		{deed(2, nil, up(1, "c", 9), down(1, "c", 9)), some()},
		// Moves, to another one and to one's own.
		{deed(1, nil, move(1, "a", 5, 2)), but(func(w *api.Raw) { w.Accounts[1][0] = account("a", -3, 4) })},
		{deed(2, nil, move(1, "a", 5, 1)), but(func(w *api.Raw) { w.Accounts[1][0] = account("a", 7, -6) })},
		{deed(3, nil, move(1, "0", 1000, 5)), but(func(w *api.Raw) { w.Accounts[1] = slices.Insert(w.Accounts[1], 0, account("0", 0, 0, -1000, 0, 1000)) })},
		{deed(2, nil, move(1, "a", 5, 2), move(1, "c", 1, 2)), some()},
		// Notes: At is the sum of Past and one.
		{deed(2, nil, setTo(0, "b", "w")), but(func(w *api.Raw) { w.Regs[0] = append(w.Regs[0], note("b", 1, 2, "w")) })},
		{deed(5, api.Clock{2, 0, 3, 0, 7}, setTo(0, "a", "")), but(func(w *api.Raw) { w.Regs[0][0] = note("a", 13, 5, "") })},
		{deed(2, api.Clock{1, 2}, setTo(0, "a", "a")), but(func(w *api.Raw) { w.Regs[0][0] = note("a", 4, 2, "a") })},
		{deed(2, api.Clock{1, 1}, setTo(0, "a", "z")), some()},
		{deed(1, api.Clock{3}, setTo(0, "a", "w")), some()},
		{deed(1, api.Clock{3}, setTo(0, "a", "y")), but(func(w *api.Raw) { w.Regs[0][0].Word = "y" })},
		{deed(1, api.Clock{most - 1, most, most, most, most}, setTo(1, "a", "y")), but(func(w *api.Raw) { w.Regs[1] = slices.Insert(w.Regs[1], 0, note("a", 5*most, 1, "y")) })},
		// Two of one key in one event: the later word, in either order.
		{deed(3, nil, setTo(1, "d", "v"), setTo(1, "d", "w")), but(func(w *api.Raw) { w.Regs[1] = append(w.Regs[1], note("d", 1, 3, "w")) })},
		{deed(3, nil, setTo(1, "d", "w"), setTo(1, "d", "v")), but(func(w *api.Raw) { w.Regs[1] = append(w.Regs[1], note("d", 1, 3, "w")) })},
		// One of each kind, and things of one key that are not mixed up.
		{deed(2, api.Clock{9, 9, 9, 9}, setTo(0, "a", "s"), setTo(1, "a", "t"), up(0, "a", 1), down(1, "a", 1), move(1, "b", 2, 3), add(0, "b"), drop(0, "a"), drop(1, "b"), add(1, "a")), api.Raw{
			Sets:     [][]api.Entry{{live("b", dot(2, 10))}, {both("a", list(dot(2, 10)), list(dot(1, 3), dot(4, 1))), dead("b", dot(2, 10)), live("c", dot(3, 1))}},
			Tallies:  [][]api.Cell{{{Key: "a", N: 4}, {Key: "b", N: -4}}, nil},
			Accounts: [][]api.Account{nil, {account("a", 2, -2), account("b", -5, -2, 2, 0, 1)}},
			Regs:     [][]api.Note{{note("a", 37, 2, "s")}, {note("a", 37, 2, "t"), note("b", 7, 2, ""), note("c", 1, 5, "\xff")}},
		}},
	} {
		got, err := Apply(mixed(), some(), c.e)
		hold(t, fmt.Sprintf("%d: %v", i, c.e), got, err, c.want)
		if Check(mixed(), got) != api.OK {
			t.Errorf("%d: what came of it may not be", i)
		}
	}
}

// Ra1: each thing is turned alone, in whichever place it stands.
func TestEffectsByPlace(t *testing.T) {
	k := greatest()
	one := func(x api.Effect, change func(w *api.Raw)) {
		t.Helper()
		want := something(k)
		change(&want)
		got, e := Apply(k, something(k), deed(3, api.Clock{0, 4}, x))
		hold(t, fmt.Sprint(x), got, e, want)
	}
	for i, dropHolds := range k.Sets {
		one(add(i, "n"), func(w *api.Raw) { w.Sets[i] = append(w.Sets[i], live("n", dot(3, 1))) })
		one(drop(i, "n"), func(w *api.Raw) {
			if dropHolds {
				w.Sets[i] = append(w.Sets[i], dead("n", dot(3, 1)))
			}
		})
	}
	for i, f := range k.Counts {
		for _, x := range []api.Effect{up(i, "n", 7), down(i, "n", 7)} {
			by := 7
			if x.Kind == api.EffDown {
				by = -7
			}
			one(x, func(w *api.Raw) {
				if f.Is {
					w.Accounts[i] = append(w.Accounts[i], account("n", 0, 0, by))
				} else {
					w.Tallies[i] = append(w.Tallies[i], api.Cell{Key: "n", N: by})
				}
			})
		}
		if f.Is {
			one(move(i, "n", 7, 1), func(w *api.Raw) { w.Accounts[i] = append(w.Accounts[i], account("n", 7, 0, -7)) })
		}
	}
	for i := range k.Regs {
		one(setTo(i, "n", "v"), func(w *api.Raw) { w.Regs[i] = append(w.Regs[i], note("n", 5, 3, "v")) })
	}
}

// Ra1: of one key that an event adds and drops, the add holds where adds do, the drop where drops do, in whichever order the effects stand.
func TestAddAndDropOfOneKey(t *testing.T) {
	for _, past := range []api.Clock{nil, {1}, {9, 9}, {9, 9, 0, 9}} {
		for _, key := range []string{"a", "b", "c", "new"} {
			for of := range 2 {
				x := add(of, key)
				if mixed().Sets[of] {
					x = drop(of, key)
				}
				want, e := Apply(mixed(), some(), deed(3, past, x))
				if e != api.OK {
					t.Fatalf("%v: %d", x, e)
				}
				for i, l := range [][]api.Effect{{add(of, key), drop(of, key)}, {drop(of, key), add(of, key)}, {add(of, key), up(0, "k", 1), down(0, "k", 1), drop(of, key), add(of, key), drop(of, key)}} {
					got, e := Apply(mixed(), some(), deed(3, past, l...))
					hold(t, fmt.Sprintf("set %d, %q, Past %v, order %d", of, key, past, i), got, e, want)
				}
			}
		}
	}
	k, none := mixed(), nothing(mixed())
	got, e := Apply(k, none, deed(1, nil, drop(0, "k"), add(0, "k"), add(1, "k"), drop(1, "k")))
	want := nothing(k)
	want.Sets[0], want.Sets[1] = []api.Entry{live("k", dot(1, 1))}, []api.Entry{dead("k", dot(1, 1))}
	hold(t, "from nothing", got, e, want)
	// Of another key, or in another set, one effect does not stand in for the other one.
	got, e = Apply(k, got, deed(2, api.Clock{1}, add(1, "k"), drop(0, "k"), add(0, "l"), drop(1, "l")))
	want.Sets[0], want.Sets[1] = []api.Entry{live("l", dot(2, 1))}, []api.Entry{both("k", list(dot(2, 1)), list(dot(1, 1))), dead("l", dot(2, 1))}
	hold(t, "of several keys", got, e, want)
}

// Ra1: drops are done ahead of adds that stand ahead of them: what they let go of is room for these.
func TestDropsAheadOfAdds(t *testing.T) {
	k := api.Kinds{Sets: []bool{false, true}}
	w := api.Raw{Sets: [][]api.Entry{manyLive(4000), manyLive(4000)}}
	want := copied(w)
	want.Sets[0] = append(want.Sets[0][1:], live("new", dot(2, 1)))
	got, e := Apply(k, w, deed(2, api.Clock{most}, add(0, "new"), drop(0, manyKey(0))))
	hold(t, "an add ahead of a drop", got, e, want)
	got, e = Apply(k, w, deed(2, api.Clock{most}, drop(0, manyKey(0)), add(0, "new")))
	hold(t, "a drop ahead of an add", got, e, want)
	// A key that is added too makes no room.
	got, e = Apply(k, w, deed(2, api.Clock{most}, add(0, "new"), drop(0, manyKey(0)), add(0, manyKey(0))))
	refuse(t, "a key that is dropped and added", got, e, api.ErrFull)
	got, e = Apply(k, w, deed(2, api.Clock{most}, add(0, "new"), add(0, "newer"), drop(0, manyKey(0))))
	refuse(t, "two adds and a drop", got, e, api.ErrFull)
	// Where a drop holds, its key takes room still; a new key that is added and dropped takes it once.
	got, e = Apply(k, w, deed(2, api.Clock{most}, add(1, "new"), drop(1, manyKey(0))))
	refuse(t, "a drop that makes no room", got, e, api.ErrFull)
	less := api.Raw{Sets: [][]api.Entry{nil, manyLive(3999)}}
	want = copied(less)
	want.Sets[1] = append(want.Sets[1], dead("new", dot(2, 1)))
	got, e = Apply(k, less, deed(2, nil, add(1, "new"), drop(1, "new"), add(1, "new")))
	hold(t, "a new key that is added and dropped", got, e, want)
}

// Ra1: EffUp and EffDown go to a count's bound, and not beyond.
func TestCountBounds(t *testing.T) {
	k := mixed()
	at := func(n int) api.Raw {
		w := nothing(k)
		if n != 0 {
			w.Tallies[0] = []api.Cell{{Key: "k", N: n}}
			w.Accounts[1] = []api.Account{account("k", 0, n)}
		}
		return w
	}
	for of := range 2 {
		for i, c := range []struct {
			from, to int
			x        api.Effect
		}{
			{far - 1000, far, up(of, "k", 1000)}, {far - 1, far, up(of, "k", 1)}, {1000 - far, -far, down(of, "k", 1000)}, {1 - far, -far, down(of, "k", 1)},
			{far, far - 1, down(of, "k", 1)}, {-far, 1 - far, up(of, "k", 1)}, {1, 0, down(of, "k", 1)}, {-1, 0, up(of, "k", 1)}, {0, -1000, down(of, "k", 1000)},
		} {
			got, e := Apply(k, at(c.from), deed(2, nil, c.x))
			want := at(c.from)
			if of == 0 {
				want.Tallies = at(c.to).Tallies
			} else {
				want.Accounts = at(c.to).Accounts
			}
			hold(t, fmt.Sprintf("count %d, %d", of, i), got, e, want)
		}
		for i, c := range []struct {
			from int
			l    []api.Effect
		}{
			{far, []api.Effect{up(of, "k", 1)}}, {far - 999, []api.Effect{up(of, "k", 1000)}}, {-far, []api.Effect{down(of, "k", 1)}}, {999 - far, []api.Effect{down(of, "k", 1000)}},
			// Effects are done one behind the other: too far on the way is too far, whatever stands behind.
			{far, []api.Effect{up(of, "k", 1), down(of, "k", 1)}}, {-far, []api.Effect{down(of, "k", 1), up(of, "k", 1000)}}, {far - 1, []api.Effect{up(of, "k", 1), up(of, "k", 1), down(of, "k", 9)}},
			{far, []api.Effect{drop(0, "k"), add(1, "k"), setTo(0, "k", ""), up(of, "l", 1), up(of, "k", 1), up(of, "l", 1)}},
		} {
			got, e := Apply(k, at(c.from), deed(2, nil, c.l...))
			refuse(t, fmt.Sprintf("count %d, too far %d", of, i), got, e, api.ErrFull)
		}
		for i, c := range []struct {
			from int
			l    []api.Effect
		}{
			{far, []api.Effect{down(of, "k", 1), up(of, "k", 1)}}, {-far, []api.Effect{up(of, "k", 1000), down(of, "k", 1000)}}, {far - 1, []api.Effect{up(of, "k", 1), down(of, "k", 1)}},
		} {
			got, e := Apply(k, at(c.from), deed(2, nil, c.l...))
			hold(t, fmt.Sprintf("count %d, there and back %d", of, i), got, e, at(c.from))
		}
	}
	// What is moved goes no further, on both sides.
	for i, x := range []api.Effect{move(1, "k", 1, 2), move(1, "k", 1000, 2)} {
		got, e := Apply(k, at(far), deed(1, nil, x))
		refuse(t, fmt.Sprintf("moved to one that has all, %d", i), got, e, api.ErrFull)
		got, e = Apply(k, at(-far), deed(2, nil, move(1, "k", x.N, 1)))
		refuse(t, fmt.Sprintf("moved from one that has least, %d", i), got, e, api.ErrFull)
	}
	got, e := Apply(k, at(far), deed(2, nil, move(1, "k", 1000, 2)))
	hold(t, "moved to one's own", got, e, at(far))
}

// Ra1: a count's floor refuses nothing here: rights are asked for where something is done.
func TestFloorsRefuseNothing(t *testing.T) {
	for _, at := range []int{0, -1, -1000} {
		k := api.Kinds{Counts: []api.Floor{floor(at)}}
		w, e := Apply(k, nothing(k), deed(2, nil, down(0, "k", 1000), move(0, "k", 1000, 3), down(0, "k", 1000)))
		want := nothing(k)
		want.Accounts[0] = []api.Account{account("k", 0, -3000, 1000)}
		hold(t, fmt.Sprintf("floor %d", at), w, e, want)
	}
}

// Ra1, R2, R3: where one effect is refused, none is told as done, and what was handed in stands.
func TestRefusedStands(t *testing.T) {
	k := mixed()
	w := rightRaws()[9].w
	w.Accounts[1] = manyAccounts(3999)
	w.Regs[1] = manyNotes(3)
	was := text(w)
	fine := []api.Effect{drop(0, manyKey(0)), drop(1, manyKey(0)), add(0, manyKey(1)), add(1, manyKey(1)), up(0, manyKey(0), 9), down(1, "x", 9), move(1, "x", 1, 2), setTo(1, "x", "w")}
	for i, x := range []api.Effect{up(0, "y", 1), up(1, "y", 1), add(1, "y"), setTo(0, "y", "")} {
		for at := range len(fine) + 1 {
			got, e := Apply(k, w, deed(1, api.Clock{most - 1, 3}, slices.Insert(slices.Clone(fine), at, x)...))
			refuse(t, fmt.Sprintf("effect %d at %d", i, at), got, e, api.ErrFull)
		}
	}
	if text(w) != was {
		t.Error("what was handed in has changed")
	}
	if got, e := Apply(k, w, deed(1, api.Clock{most - 1, 3}, fine...)); e != api.OK || text(got) == was || Check(k, got) != api.OK {
		t.Errorf("without what is refused: got %d", e)
	}
}

// Ra1: 16 effects of an event are all done.
func TestAllEffectsDone(t *testing.T) {
	k := greatest()
	var l []api.Effect
	want := nothing(k)
	for i := range api.MaxEffects {
		l = append(l, up(1, manyKey(i), i+1))
		want.Tallies[1] = append(want.Tallies[1], api.Cell{Key: manyKey(i), N: i + 1})
	}
	got, e := Apply(k, nothing(k), deed(5, all()[:4], l...))
	hold(t, "16 effects", got, e, want)
}
