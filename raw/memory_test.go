package raw

import (
	"maps"
	"slices"
	"testing"

	"huckster/api"
)

// whole is a list with what stands behind it in its memory.
func whole[T any](l []T) []T { return l[:cap(l)] }

// copied is raw in other memory, with room behind its lists, so that one that is put behind them would be seen.
func copied(w api.Raw) api.Raw {
	c := api.Raw{Sets: roomy(w.Sets), Tallies: roomy(w.Tallies), Accounts: roomy(w.Accounts), Regs: roomy(w.Regs)}
	for _, s := range c.Sets {
		for i := range s {
			s[i].Live, s[i].Dead = slices.Grow(slices.Clone(s[i].Live), 3), slices.Grow(slices.Clone(s[i].Dead), 3)
		}
	}
	return c
}

func roomy[T any](l [][]T) [][]T {
	c := slices.Grow(slices.Clone(l), 3)
	for i := range c {
		c[i] = slices.Grow(slices.Clone(c[i]), 3)
	}
	return c
}

// dotLists are all lists of dots of raw, and of what stands behind its keys.
func dotLists(w api.Raw) [][]api.Dot {
	var l [][]api.Dot
	for _, s := range whole(w.Sets) {
		for _, x := range whole(s) {
			l = append(l, x.Live, x.Dead)
		}
	}
	return l
}

// roomIsClear tells whether nothing was written behind the lists of raw.
func roomIsClear(w api.Raw) bool {
	behind := func(sizes ...int) bool { return !slices.ContainsFunc(sizes, func(n int) bool { return n != 0 }) }
	for _, l := range dotLists(w) {
		if slices.ContainsFunc(whole(l)[len(l):], func(d api.Dot) bool { return d != (api.Dot{}) }) {
			return false
		}
	}
	for _, l := range w.Sets {
		for _, x := range whole(l)[len(l):] {
			if !behind(len(x.Key), len(x.Live), len(x.Dead)) {
				return false
			}
		}
	}
	return isClear(w.Tallies) && isClear(w.Accounts) && isClear(w.Regs)
}

// isClear tells whether nothing was written behind lists, nor behind each of them.
func isClear[T comparable](l [][]T) bool {
	var zero T
	for _, one := range l {
		if slices.ContainsFunc(whole(one)[len(one):], func(x T) bool { return x != zero }) {
			return false
		}
	}
	return !slices.ContainsFunc(whole(l)[len(l):], func(one []T) bool { return one != nil })
}

// spoil changes all that raw has, and what stands behind it.
func spoil(w api.Raw) {
	for _, l := range dotLists(w) {
		for j := range whole(l) {
			whole(l)[j] = dot(4, 444)
		}
	}
	spoilLists(w.Sets, live("spoilt", dot(4, 444)))
	spoilLists(w.Tallies, api.Cell{Key: "spoilt", N: 444})
	spoilLists(w.Accounts, account("spoilt", 444))
	spoilLists(w.Regs, note("spoilt", 444, 4, "spoilt"))
}

func spoilLists[T any](l [][]T, x T) {
	for i := range whole(l) {
		for j := range whole(whole(l)[i]) {
			whole(whole(l)[i])[j] = x
		}
		whole(l)[i] = []T{x}
	}
}

// marked writes another thing into each list, and tells whether no list has another one's.
func marked[T comparable](l [][]T, make func(i int) T) bool {
	for i, one := range l {
		for j := range whole(one) {
			whole(one)[j] = make(i)
		}
	}
	for i, one := range l {
		if slices.ContainsFunc(whole(one), func(x T) bool { return x != make(i) }) {
			return false
		}
	}
	return true
}

// listsArePart tells whether no two lists of raw share memory (what it has is spoilt).
func listsArePart(w api.Raw) bool {
	arePart := marked(dotLists(w), func(i int) api.Dot { return dot(5, 500+i) })
	arePart = arePart && marked(w.Tallies, func(i int) api.Cell { return api.Cell{N: i} })
	arePart = arePart && marked(w.Accounts, func(i int) api.Account { return account("", i) })
	arePart = arePart && marked(w.Regs, func(i int) api.Note { return api.Note{At: i} })
	for i, s := range w.Sets {
		for j := range whole(s) {
			whole(s)[j] = live(manyKey(i))
		}
	}
	for i, s := range w.Sets {
		arePart = arePart && !slices.ContainsFunc(whole(s), func(x api.Entry) bool { return x.Key != manyKey(i) })
	}
	return arePart
}

// handed is all that a call is handed.
type handed struct {
	k api.Kinds
	w api.Raw
	e api.Event
	c api.Clock
}

func (h handed) clone() handed {
	return handed{
		k: api.Kinds{Sets: slices.Clone(h.k.Sets), Counts: slices.Clone(h.k.Counts), Regs: h.k.Regs},
		w: copied(h.w),
		e: api.Event{Dot: h.e.Dot, Past: slices.Clone(h.e.Past), Effects: slices.Clone(h.e.Effects)},
		c: slices.Clone(h.c),
	}
}

func (h handed) isAs(was handed) bool {
	return slices.Equal(h.k.Sets, was.k.Sets) && slices.Equal(h.k.Counts, was.k.Counts) &&
		text(h.w) == text(was.w) && roomIsClear(h.w) &&
		slices.Equal(h.e.Past, was.e.Past) && slices.Equal(h.e.Effects, was.e.Effects) && slices.Equal(h.c, was.c)
}

func (h handed) spoil() {
	for i := range h.k.Sets {
		h.k.Sets[i] = !h.k.Sets[i]
	}
	for i := range h.k.Counts {
		h.k.Counts[i] = floor(-44)
	}
	spoil(h.w)
	for i := range h.e.Past {
		h.e.Past[i] = 44
	}
	for i := range h.e.Effects {
		h.e.Effects[i] = add(1, "spoilt")
	}
	for i := range h.c {
		h.c[i] = 44
	}
}

// calls are the calls that answer raw.
func calls() map[string]func(h handed) (api.Raw, api.Errno) {
	return map[string]func(h handed) (api.Raw, api.Errno){
		"New":   func(h handed) (api.Raw, api.Errno) { return New(h.k) },
		"Apply": func(h handed) (api.Raw, api.Errno) { return Apply(h.k, h.w, h.e) },
		"Clean": func(h handed) (api.Raw, api.Errno) { return Clean(h.k, h.w, h.c) },
		"Plain": func(h handed) (api.Raw, api.Errno) { return Plain(h.k, h.w) },
	}
}

// R3: no call writes to what it is handed; what it answers shares nothing with it, nor do its lists with each other.
func TestNothingShared(t *testing.T) {
	events := []api.Event{
		deed(1, api.Clock{9}, add(0, "a")), deed(1, api.Clock{9, 9}, add(1, "0"), drop(1, "z")), deed(2, nil, drop(0, "b")), deed(3, api.Clock{9, 9}, add(1, "a"), drop(1, "a"), add(0, "b"), drop(0, "b")),
		deed(1, nil, up(0, "c", 3), down(0, "a", 3), up(1, "a", 1)), deed(1, nil, move(1, "a", 2, 2)), deed(5, api.Clock{9}, setTo(0, "a", "w"), setTo(1, "0", "")),
		deed(4, api.Clock{9, 9, 9}, add(0, "k"), drop(0, "a"), add(1, "k"), drop(1, "c"), up(0, "k", 1), down(1, "k", 1), move(1, "b", 1, 5), setTo(0, "k", "w"), setTo(1, "k", "w")),
	}
	for _, name := range slices.Sorted(maps.Keys(calls())) {
		call := calls()[name]
		for i, e := range events {
			for _, c := range []api.Clock{nil, {3}, {4, 0, 0, 1}, {9, 9, 9, 9, 9}} {
				base := handed{mixed(), some(), e, c}
				h := base.clone()
				got, err := call(h)
				if err != api.OK || !h.isAs(base) {
					t.Fatalf("%s, event %d, %v: %d, wrote to what it was handed: %s", name, i, c, err, text(h.w))
				}
				want := text(got)
				h.spoil()
				if text(got) != want {
					t.Errorf("%s, event %d, %v: what it told has changed: %s, was %s", name, i, c, text(got), want)
				}
				if !listsArePart(got) {
					t.Errorf("%s, event %d, %v: two lists share", name, i, c)
				}
				h = base.clone()
				got, _ = call(h)
				spoil(got)
				if !h.isAs(base) {
					t.Errorf("%s, event %d, %v: what it was handed has changed by what it told: %s", name, i, c, text(h.w))
				}
			}
		}
	}
}

// R3: what is read, or refused, stays as it is; bytes are the caller's own.
func TestReadingsAndRefusals(t *testing.T) {
	full := rightRaws()[9].w
	for i, w := range []api.Raw{some(), full, wrongSizes()[1], wrongSizes()[4]} {
		for j, e := range []api.Event{
			{}, deed(1, nil), deed(1, nil, add(2, "k")), deed(1, nil, move(0, "k", 1, 2)), deed(1, nil, up(0, "k", 1), add(9, "k")),
			deed(1, nil, drop(0, "a"), add(0, "x"), add(1, "x"), up(0, "x", 1), up(1, "x", 1), setTo(0, "x", "")),
		} {
			base := handed{mixed(), w, e, api.Clock{-1}}
			h := base.clone()
			CheckKinds(h.k)
			Check(h.k, h.w)
			Fits(h.k, h.e)
			Same(h.w, w)
			Same(w, h.w)
			Clean(h.k, h.w, h.c)
			Apply(h.k, h.w, h.e)
			Apply(wrongKinds()[0], h.w, h.e)
			got, _ := Bytes(h.k, h.w)
			for n := range got {
				got[n] = 0xee
			}
			if !h.isAs(base) {
				t.Errorf("raw %d, event %d: what was handed has changed: %s", i, j, brief(h.w))
			}
		}
	}
	first, _ := Bytes(mixed(), some())
	second, _ := Bytes(mixed(), some())
	want := slices.Clone(second)
	for n := range whole(first) {
		whole(first)[n] = 0xee
	}
	if !slices.Equal(second, want) {
		t.Error("bytes that were told twice share")
	}
}
