package rwset

import (
	"fmt"
	"maps"
	"math"
	"math/rand"
	"slices"
	"strings"
	"testing"

	"huckster/api"
)

// most is the greatest number that a dot, or a clock, has.
const most = api.MaxSeq

// dot is a dot in short.
func dot(rep, seq int) api.Dot { return api.Dot{Rep: rep, Seq: seq} }

// list is dots in short.
func list(l ...api.Dot) []api.Dot { return l }

// live is a key with Live alone in short.
func live(key string, l ...api.Dot) api.Entry { return api.Entry{Key: key, Live: l} }

// dead is a key with Dead alone in short.
func dead(key string, l ...api.Dot) api.Entry { return api.Entry{Key: key, Dead: l} }

// both is a key with Live and Dead in short.
func both(key string, live, dead []api.Dot) api.Entry {
	return api.Entry{Key: key, Live: live, Dead: dead}
}

// set is a set in short.
func set(l ...api.Entry) []api.Entry { return l }

// all is a Past that has every dot.
func all() api.Clock { return api.Clock{most, most, most, most, most} }

func manyKey(i int) string { return fmt.Sprintf("%04d", i) }

// many is a set of n keys with Live alone, with Dead alone and with both, of 4 bytes each, every second number, so that there are keys ahead of, between and behind them.
func many(n int) []api.Entry {
	var s []api.Entry
	for i := range n {
		x := api.Entry{Key: manyKey(2*i + 1)}
		if i%3 != 1 {
			x.Live = list(dot(1, i+1))
		}
		if i%3 != 0 {
			x.Dead = list(dot(2, i+1))
		}
		s = append(s, x)
	}
	return s
}

// copied is a set in other memory.
func copied(s []api.Entry) []api.Entry {
	var c []api.Entry
	for _, x := range s {
		c = append(c, both(x.Key, slices.Clone(x.Live), slices.Clone(x.Dead)))
	}
	return c
}

// text is all that a set has, as a text: sets are held against each other without the package's own functions.
func text(s []api.Entry) string {
	var b strings.Builder
	for _, x := range s {
		fmt.Fprintf(&b, "%q live %v dead %v;", x.Key, x.Live, x.Dead)
	}
	return b.String()
}

// hold tells whether an answer is the set that is asked for.
func hold(t *testing.T, what string, got []api.Entry, e api.Errno, want []api.Entry) {
	t.Helper()
	if e != api.OK || text(got) != text(want) {
		t.Errorf("%s: got %s, %d, want %s", what, text(got), e, text(want))
	}
}

// refuse tells whether an answer is an error, and nothing beside it.
func refuse(t *testing.T, what string, got []api.Entry, e, want api.Errno) {
	t.Helper()
	if e != want || len(got) != 0 {
		t.Errorf("%s: got %s, %d, want nothing, %d", what, text(got), e, want)
	}
}

// rightKeys are keys that may be.
func rightKeys() []string {
	return []string{"k", "\x00", "\xff", "\xff\xfe\x80", "kk", "é", strings.Repeat("k", 31), strings.Repeat("k", 32), strings.Repeat("\x80", 32), strings.Repeat("é", 16)}
}

// wrongKeys are keys that may not be.
func wrongKeys() []string {
	return []string{"", strings.Repeat("k", 33), strings.Repeat("\x00", 33), strings.Repeat("é", 17), strings.Repeat("k", 5000)}
}

// rightDots are dots that may be, in order.
func rightDots() []api.Dot {
	return list(dot(1, 1), dot(1, 2), dot(1, most), dot(2, 1), dot(3, 7), dot(5, 1), dot(5, most))
}

// wrongDots are dots that may not be.
func wrongDots() []api.Dot {
	return list(api.Dot{}, dot(0, 1), dot(1, 0), dot(6, 1), dot(-1, 1), dot(1, -1), dot(1, most+1), dot(5, most+1), dot(1<<32+1, 1), dot(1, 1<<32+1), dot(math.MaxInt, 1), dot(1, math.MinInt))
}

// rightPasts are clocks that may be, plain or not.
func rightPasts() []api.Clock {
	return []api.Clock{nil, {}, {0}, {1}, {0, 0, 0, 0, 0}, {1, 2, 0}, {0, 0, 0, 0, most}, all()}
}

// wrongPasts are clocks that may not be.
func wrongPasts() []api.Clock {
	return []api.Clock{{-1}, {most + 1}, {0, 0, 0, 0, 0, 0}, {1, 2, 3, 4, 5, 6}, {1, math.MinInt}, {0, 0, 0, 0, math.MaxInt}}
}

// rightSets are sets that may be.
func rightSets() [][]api.Entry {
	one := list(dot(1, 1))
	l := [][]api.Entry{
		nil, {}, many(1), many(2), many(3), many(3999), many(4000),
		set(live("k", rightDots()...)), set(dead("k", rightDots()...)), set(both("k", rightDots(), rightDots())),
		set(both("k", one, []api.Dot{})), set(both("k", []api.Dot{}, one)), set(both("k", list(dot(2, 1)), one)),
		set(live("a", one...), live("b", one...)), set(live("a", dot(2, 1)), dead("b", dot(1, 1))), set(dead("a", dot(2, 1)), live("b", dot(1, 1))),
		set(live("a", one...), dead("aa", dot(1, 2)), live("b", dot(1, 3))), set(dead("Z", one...), dead("a", dot(1, 2))),
		set(live("\x00", one...), dead("\x00\x00", dot(1, 2)), live("\x7f", dot(1, 3)), dead("\x80", dot(1, 4)), live("\xff", dot(1, 5))),
		set(live(strings.Repeat("k", 31), one...), dead(strings.Repeat("k", 32), one...)),
	}
	for _, k := range rightKeys() {
		l = append(l, set(live(k, one...)), set(dead(k, one...)))
	}
	for _, d := range rightDots() {
		l = append(l, set(live("k", d)), set(dead("k", d)), set(both("k", list(d), list(d))))
	}
	return l
}

// wrongLists are lists of dots that may not be, each for one reason alone.
func wrongLists() [][]api.Dot {
	l := [][]api.Dot{
		// Not in order, or twice the same.
		{dot(1, 2), dot(1, 1)}, {dot(2, 1), dot(1, 2)}, {dot(1, 1), dot(1, 1)},
		{dot(1, 1), dot(2, 1), dot(1, 2)}, {dot(1, 1), dot(1, 3), dot(1, 2)}, {dot(1, 1), dot(1, 2), dot(1, 2)},
		// In order, but that one end may not be.
		{dot(1, 0), dot(1, 1)}, {dot(1, 1), dot(1, most+1)}, {dot(1, 1), dot(6, 1)}, {dot(0, 1), dot(1, 1)},
	}
	for _, d := range wrongDots() {
		l = append(l, list(d))
	}
	return l
}

// wrongSets are sets that may not be, each for one reason alone.
func wrongSets() [][]api.Entry {
	one, none := list(dot(1, 1)), []api.Dot{}
	l := [][]api.Entry{
		// Too many keys.
		many(4001), many(4999),
		// Keys that are the same, or do not rise, whatever they have.
		set(live("a", one...), live("a", dot(1, 2))), set(live("a", one...), live("a", one...)), set(live("b", one...), live("a", dot(1, 2))),
		set(live("a", one...), dead("a", one...)), set(dead("a", one...), live("a", one...)), set(dead("a", one...), dead("a", dot(1, 2))), set(dead("b", one...), live("a", one...)),
		set(live("a", one...), live("c", dot(1, 2)), live("b", dot(1, 3))), set(live("b", one...), dead("a", dot(1, 2)), live("c", dot(1, 3))),
		set(live("aa", one...), live("a", dot(1, 2))), set(live("a", one...), live("Z", dot(1, 2))), set(live("\x80", one...), live("\x7f", dot(1, 2))),
		set(live("a", one...), live("b", dot(1, 2)), live("a", dot(1, 3))),
		// A key without Live and Dead.
		set(live("k")), set(both("k", none, none)), set(api.Entry{}), set(live("a", one...), live("b")), set(live("a"), live("b", one...)), set(dead("a"), dead("b", one...)),
	}
	for _, k := range wrongKeys() {
		l = append(l, set(live(k, one...)), set(dead(k, one...)))
	}
	// Keys that rise, the last one of which is too long, or the first one of no bytes.
	l = append(l, set(live("a", one...), live(strings.Repeat("k", 33), one...)), set(live("", one...), live("a", one...)))
	for _, d := range wrongLists() {
		l = append(l, set(live("k", d...)), set(dead("k", d...)), set(both("k", one, d)), set(both("k", d, one)), set(live("a", one...), live("k", d...)), set(live("a", one...), dead("k", d...)))
	}
	return l
}

// Rw1: Check tells whether a set may be.
func TestCheck(t *testing.T) {
	for i, s := range rightSets() {
		if e := Check(s); e != api.OK {
			t.Errorf("right set %d: got %d", i, e)
		}
	}
	for i, s := range wrongSets() {
		if e := Check(s); e != api.ErrArg {
			t.Errorf("wrong set %d: got %d", i, e)
		}
	}
}

// Rw1: Add, Drop and Clean answer ErrArg, and no set, where the set, the key, the Dot or the clock may not be.
func TestWrongArguments(t *testing.T) {
	for i, s := range wrongSets() {
		what := fmt.Sprintf("wrong set %d", i)
		for _, p := range []api.Clock{nil, all()} {
			got, e := Add(s, "k", dot(1, 9), p)
			refuse(t, "Add, "+what, got, e, api.ErrArg)
			got, e = Drop(s, "k", dot(1, 9), p)
			refuse(t, "Drop, "+what, got, e, api.ErrArg)
			got, e = Clean(s, p)
			refuse(t, "Clean, "+what, got, e, api.ErrArg)
		}
	}
	// At 4000 keys a new one is too many as well: what may not be is told first. An add that does nothing is refused too.
	for _, s := range [][]api.Entry{nil, set(live("k", dot(1, 1))), set(dead("k", dot(1, 1))), many(4000)} {
		for _, k := range wrongKeys() {
			got, e := Add(s, k, dot(1, 9), nil)
			refuse(t, fmt.Sprintf("Add, key %q", k), got, e, api.ErrArg)
			got, e = Drop(s, k, dot(1, 9), nil)
			refuse(t, fmt.Sprintf("Drop, key %q", k), got, e, api.ErrArg)
		}
		for _, d := range wrongDots() {
			got, e := Add(s, "k", d, nil)
			refuse(t, fmt.Sprintf("Add, dot %v", d), got, e, api.ErrArg)
			got, e = Drop(s, "k", d, nil)
			refuse(t, fmt.Sprintf("Drop, dot %v", d), got, e, api.ErrArg)
		}
		for _, p := range wrongPasts() {
			got, e := Add(s, "k", dot(1, 9), p)
			refuse(t, fmt.Sprintf("Add, Past %v", p), got, e, api.ErrArg)
			got, e = Drop(s, "k", dot(1, 9), p)
			refuse(t, fmt.Sprintf("Drop, Past %v", p), got, e, api.ErrArg)
			got, e = Clean(s, p)
			refuse(t, fmt.Sprintf("Clean, clock %v", p), got, e, api.ErrArg)
		}
	}
}

// Rw1: all keys, Dots and Pasts that may be are taken.
func TestRightArguments(t *testing.T) {
	for _, k := range rightKeys() {
		for _, d := range rightDots() {
			for _, p := range rightPasts() {
				got, e := Add(nil, k, d, p)
				hold(t, fmt.Sprintf("Add, %q %v %v", k, d, p), got, e, set(live(k, d)))
				got, e = Drop(nil, k, d, p)
				hold(t, fmt.Sprintf("Drop, %q %v %v", k, d, p), got, e, set(dead(k, d)))
			}
		}
	}
}

// Rw1: a key that is not in the set is put where its bytes stand: ahead of all, between and behind all.
func TestNewKey(t *testing.T) {
	s := set(both("b", list(dot(1, 1)), list(dot(2, 2))), dead("d", dot(1, 2), dot(2, 1)))
	for _, c := range []struct {
		key string
		at  int
	}{{"a", 0}, {"\x00", 0}, {"c", 1}, {"bb", 1}, {"e", 2}, {"\xff", 2}} {
		// What the Past has of other keys does not matter.
		for _, p := range rightPasts() {
			got, e := Add(s, c.key, dot(3, 4), p)
			hold(t, fmt.Sprintf("Add %q, %v", c.key, p), got, e, slices.Insert(copied(s), c.at, live(c.key, dot(3, 4))))
			got, e = Drop(s, c.key, dot(3, 4), p)
			hold(t, fmt.Sprintf("Drop %q, %v", c.key, p), got, e, slices.Insert(copied(s), c.at, dead(c.key, dot(3, 4))))
		}
	}
}

// step is what an add, or a drop, makes of a key.
type step struct {
	from api.Entry
	d    api.Dot
	past api.Clock
	want api.Entry
}

// walk holds each step of a key that stands ahead of all, between and behind all others.
func walk(t *testing.T, name string, call func([]api.Entry, string, api.Dot, api.Clock) ([]api.Entry, api.Errno), l []step) {
	t.Helper()
	a, z := both("a", list(dot(1, 2)), list(dot(2, 1))), dead("z", dot(2, 1))
	for _, c := range l {
		for _, at := range [][2][]api.Entry{{nil, nil}, {set(a), nil}, {nil, set(z)}, {set(a), set(z)}} {
			s := slices.Concat(at[0], set(c.from), at[1])
			got, e := call(s, c.from.Key, c.d, c.past)
			hold(t, fmt.Sprintf("%s %v, %v to %s", name, c.d, c.past, text(s)), got, e, slices.Concat(at[0], set(c.want), at[1]))
		}
	}
}

// Rw1: if the Past has all Dead, an add lets Live be those that the Past has not, and the Dot, in order; Dead stay.
func TestAddThatHolds(t *testing.T) {
	l := list(dot(1, 2), dot(1, 5), dot(2, 1), dot(4, 3))
	gone := list(dot(1, 1), dot(3, 2))
	walk(t, "Add", Add, []step{
		// Without Dead, of Pasts that have none of Live, some, all.
		{live("k", l...), dot(3, 1), nil, live("k", dot(1, 2), dot(1, 5), dot(2, 1), dot(3, 1), dot(4, 3))},
		{live("k", l...), dot(3, 1), api.Clock{1, 0, 9, 2, 9}, live("k", dot(1, 2), dot(1, 5), dot(2, 1), dot(3, 1), dot(4, 3))},
		{live("k", l...), dot(1, 1), nil, live("k", dot(1, 1), dot(1, 2), dot(1, 5), dot(2, 1), dot(4, 3))},
		{live("k", l...), dot(5, 1), nil, live("k", dot(1, 2), dot(1, 5), dot(2, 1), dot(4, 3), dot(5, 1))},
		{live("k", l...), dot(3, 1), api.Clock{2}, live("k", dot(1, 5), dot(2, 1), dot(3, 1), dot(4, 3))},
		{live("k", l...), dot(3, 1), api.Clock{4, 1}, live("k", dot(1, 5), dot(3, 1), dot(4, 3))},
		{live("k", l...), dot(3, 1), api.Clock{0, 0, 0, 3}, live("k", dot(1, 2), dot(1, 5), dot(2, 1), dot(3, 1))},
		{live("k", l...), dot(3, 1), api.Clock{5, 1, 0, 3}, live("k", dot(3, 1))},
		{live("k", l...), dot(5, most), all(), live("k", dot(5, most))},
		// The Dot is in Live already, the Past has it or not.
		{live("k", l...), dot(1, 5), nil, live("k", l...)},
		{live("k", l...), dot(1, 5), api.Clock{2}, live("k", dot(1, 5), dot(2, 1), dot(4, 3))},
		{live("k", l...), dot(1, 5), api.Clock{5}, live("k", dot(1, 5), dot(2, 1), dot(4, 3))},
		{live("k", l...), dot(1, 3), api.Clock{5, 1, 0, 3}, live("k", dot(1, 3))},
		// Dead alone, all of which the Past has: just so, and more.
		{dead("k", gone...), dot(2, 7), api.Clock{1, 0, 2}, both("k", list(dot(2, 7)), gone)},
		{dead("k", gone...), dot(2, 7), all(), both("k", list(dot(2, 7)), gone)},
		{dead("k", dot(5, most)), dot(1, 1), api.Clock{0, 0, 0, 0, most}, both("k", list(dot(1, 1)), list(dot(5, most)))},
		// Both.
		{both("k", l, gone), dot(3, 3), api.Clock{1, 0, 2}, both("k", list(dot(1, 2), dot(1, 5), dot(2, 1), dot(3, 3), dot(4, 3)), gone)},
		{both("k", l, gone), dot(3, 3), api.Clock{2, 1, 2}, both("k", list(dot(1, 5), dot(3, 3), dot(4, 3)), gone)},
		{both("k", l, gone), dot(3, 3), api.Clock{5, 1, 2, 3}, both("k", list(dot(3, 3)), gone)},
		// The Dot is in Dead already.
		{both("k", l, gone), dot(3, 2), api.Clock{5, 1, 2, 3}, both("k", list(dot(3, 2)), gone)},
		{dead("k", gone...), dot(1, 1), api.Clock{1, 0, 2}, both("k", list(dot(1, 1)), gone)},
	})
}

// Rw1: an add whose Past has not all Dead does nothing.
func TestAddThatDoesNothing(t *testing.T) {
	l, gone := list(dot(1, 2), dot(2, 1)), list(dot(1, 1), dot(3, 2))
	for _, x := range []api.Entry{dead("k", gone...), both("k", l, gone)} {
		for _, p := range []api.Clock{nil, {}, {0}, {1}, {0, 0, 2}, {1, 0, 1}, {9, 9, 1, 9, 9}, {0, 9, 9, 9, 9}, {most, most, 0, most, most}} {
			for _, d := range list(dot(4, 1), dot(1, 1), dot(1, 2), dot(1, 3), dot(3, 2), dot(5, most)) {
				walk(t, "Add", Add, []step{{x, d, p, x}})
			}
		}
	}
	// A Dot that is the one Dead: it is not in its own Past.
	walk(t, "Add", Add, []step{{dead("k", dot(1, 1)), dot(1, 1), nil, dead("k", dot(1, 1))}})
}

// Rw1: a drop lets a key have no Live, whatever its Past has, and its Dead be those that the Past has not, and the Dot, in order.
func TestDrop(t *testing.T) {
	l, gone := list(dot(1, 2), dot(2, 1)), list(dot(1, 2), dot(1, 5), dot(4, 3))
	for _, p := range append(rightPasts(), api.Clock{2}, api.Clock{1, 1}, api.Clock{2, 1}) {
		walk(t, "Drop", Drop, []step{{live("k", l...), dot(3, 1), p, dead("k", dot(3, 1))}, {live("k", l...), dot(1, 2), p, dead("k", dot(1, 2))}})
	}
	for _, x := range []api.Entry{dead("k", gone...), both("k", l, gone)} {
		walk(t, "Drop", Drop, []step{
			// The Past has none of Dead, some, all.
			{x, dot(3, 1), nil, dead("k", dot(1, 2), dot(1, 5), dot(3, 1), dot(4, 3))},
			{x, dot(1, 1), nil, dead("k", dot(1, 1), dot(1, 2), dot(1, 5), dot(4, 3))},
			{x, dot(5, 1), api.Clock{1, 9, 9, 2, 9}, dead("k", dot(1, 2), dot(1, 5), dot(4, 3), dot(5, 1))},
			{x, dot(3, 1), api.Clock{2}, dead("k", dot(1, 5), dot(3, 1), dot(4, 3))},
			{x, dot(3, 1), api.Clock{4, 0, 0, 3}, dead("k", dot(1, 5), dot(3, 1))},
			{x, dot(3, 1), api.Clock{5, 0, 0, 2}, dead("k", dot(3, 1), dot(4, 3))},
			{x, dot(3, 1), api.Clock{5, 0, 0, 3}, dead("k", dot(3, 1))},
			{x, dot(5, most), all(), dead("k", dot(5, most))},
			// The Dot is in Dead, or in Live, already, the Past has it or not.
			{x, dot(1, 5), nil, dead("k", gone...)},
			{x, dot(1, 5), api.Clock{5}, dead("k", dot(1, 5), dot(4, 3))},
			{x, dot(4, 3), all(), dead("k", dot(4, 3))},
			{x, dot(2, 1), api.Clock{0, 1}, dead("k", dot(1, 2), dot(1, 5), dot(2, 1), dot(4, 3))},
			{x, dot(1, 3), api.Clock{5, 0, 0, 3}, dead("k", dot(1, 3))},
		})
	}
}

// Rw1: a key more than 4000 is ErrFull, of an add and of a drop; at 4000 those that the set has are added to and dropped, and when it is cleaned there is room.
func TestFull(t *testing.T) {
	s := many(4000)
	for _, k := range []string{manyKey(0), manyKey(4000), manyKey(7998), "\xff"} {
		for _, p := range rightPasts() {
			got, e := Add(s, k, dot(3, 1), p)
			refuse(t, "Add of "+k+" to 4000", got, e, api.ErrFull)
			got, e = Drop(s, k, dot(3, 1), p)
			refuse(t, "Drop of "+k+" of 4000", got, e, api.ErrFull)
		}
	}
	for _, i := range []int{0, 1, 2, 1999, 2000, 2001, 3998, 3999} {
		want := copied(s)
		want[i].Live = list(dot(3, 1))
		got, e := Add(s, s[i].Key, dot(3, 1), all())
		hold(t, "Add to one of 4000", got, e, want)
		if len(s[i].Dead) > 0 {
			got, e = Add(s, s[i].Key, dot(3, 1), nil)
			hold(t, "Add that does nothing to one of 4000", got, e, s)
		}
		want[i] = dead(s[i].Key, dot(3, 1))
		got, e = Drop(s, s[i].Key, dot(3, 1), all())
		hold(t, "Drop of one of 4000", got, e, want)
	}
	almost := s[:3999]
	got, e := Add(almost, "z", dot(3, 1), nil)
	hold(t, "Add to 3999", got, e, append(copied(almost), live("z", dot(3, 1))))
	got, e = Drop(almost, "z", dot(3, 1), nil)
	hold(t, "Drop of 3999", got, e, append(copied(almost), dead("z", dot(3, 1))))
	less, e := Clean(s, api.Clock{0, 2})
	hold(t, "Clean of 4000", less, e, slices.Delete(copied(s), 1, 2))
	got, e = Drop(less, "z", dot(3, 1), nil)
	hold(t, "Drop behind Clean", got, e, append(copied(less), dead("z", dot(3, 1))))
}

// Rw1: Clean lets go of all Dead that the clock has; a key that has neither then is gone, and no Live is let go of.
func TestClean(t *testing.T) {
	l, gone := list(dot(1, 1), dot(2, 1)), list(dot(1, 2), dot(1, 5), dot(4, 3))
	for _, c := range []struct {
		clock api.Clock
		left  []api.Dot
	}{
		{nil, gone}, {api.Clock{}, gone}, {api.Clock{0, 0, 0, 0, 0}, gone}, {api.Clock{1, 9, 9, 2, 9}, gone},
		{api.Clock{2}, list(dot(1, 5), dot(4, 3))}, {api.Clock{4, 0, 0, 3}, list(dot(1, 5))}, {api.Clock{5}, list(dot(4, 3))}, {api.Clock{0, 0, 0, 3, 0}, list(dot(1, 2), dot(1, 5))},
		{api.Clock{5, 0, 0, 3}, nil}, {all(), nil},
	} {
		s := set(live("a", l...), both("b", l, gone), dead("c", gone...), live("d", dot(1, 1)), dead("e", gone...))
		want := set(s[0], both("b", l, c.left), dead("c", c.left...), s[3], dead("e", c.left...))
		if len(c.left) == 0 {
			want = set(s[0], live("b", l...), s[3])
		}
		got, e := Clean(s, c.clock)
		hold(t, fmt.Sprintf("Clean by %v", c.clock), got, e, want)
	}
	got, e := Clean(set(dead("k", dot(1, 1))), api.Clock{1})
	hold(t, "Clean of the last key", got, e, nil)
	for i, s := range rightSets() {
		got, e := Clean(s, all())
		if e != api.OK || Check(got) != api.OK || text(got) != text(withoutDead(s)) {
			t.Errorf("right set %d: got %s, %d", i, text(got), e)
		}
		if got, e = Clean(s, nil); e != api.OK || text(got) != text(s) {
			t.Errorf("right set %d, by no clock: got %s, %d", i, text(got), e)
		}
	}
}

// withoutDead is what Plain is asked for of a set that may be.
func withoutDead(s []api.Entry) []api.Entry {
	var l []api.Entry
	for _, x := range s {
		if len(x.Live) > 0 {
			l = append(l, live(x.Key, x.Live...))
		}
	}
	return l
}

// Rw2: Has tells whether a key has a Live: none has in a set that may not be.
func TestHas(t *testing.T) {
	long := strings.Repeat("k", 32)
	s := set(live("b", dot(1, 1)), dead("c", dot(1, 1)), both("d", list(dot(1, 2)), list(dot(1, 1))), live(long, dot(1, 3)), both("y", []api.Dot{}, list(dot(1, 1))), live("\xff", dot(1, 4)))
	for _, k := range []string{"b", "d", long, "\xff"} {
		if !Has(s, k) {
			t.Errorf("Has %q: false", k)
		}
	}
	for _, k := range []string{"a", "c", "y", "z", "bb", "B", "", strings.Repeat("k", 31), strings.Repeat("k", 33), "\xff\xff"} {
		if Has(s, k) || Has(nil, k) {
			t.Errorf("Has %q: true", k)
		}
	}
	full := many(4000)
	if !Has(full, manyKey(1)) || Has(full, manyKey(3)) || !Has(full, manyKey(5)) || !Has(full, manyKey(7999)) || Has(full, manyKey(4000)) || Has(full, "") {
		t.Error("Has of 4000 keys")
	}
	for i, s := range wrongSets() {
		for _, x := range s {
			if Has(s, x.Key) {
				t.Fatalf("wrong set %d has %q", i, x.Key)
			}
		}
	}
}

// Rw2: Keys is all keys that have a Live, Plain is the set without Dead: both nothing of a set that may not be.
func TestKeysAndPlain(t *testing.T) {
	for i, s := range rightSets() {
		var keys []string
		plain := withoutDead(s)
		for _, x := range plain {
			keys = append(keys, x.Key)
		}
		if got := Keys(s); !slices.Equal(got, keys) {
			t.Errorf("right set %d: got %q, want %q", i, got, keys)
		}
		if got := Plain(s); text(got) != text(plain) {
			t.Errorf("right set %d: got %s, want %s", i, text(got), text(plain))
		}
	}
	for i, s := range wrongSets() {
		if got := Keys(s); len(got) != 0 {
			t.Errorf("wrong set %d: got %q", i, got)
		}
		if got := Plain(s); len(got) != 0 {
			t.Errorf("wrong set %d: got %s", i, text(got))
		}
	}
	s := set(dead("a", dot(1, 1)), both("b", list(dot(1, 3), dot(2, 1)), list(dot(1, 2))), dead("c", dot(1, 1)), live("d", dot(1, 4)))
	hold(t, "Plain", Plain(s), api.OK, set(live("b", dot(1, 3), dot(2, 1)), live("d", dot(1, 4))))
	if got := Keys(s); !slices.Equal(got, []string{"b", "d"}) {
		t.Errorf("Keys: got %q", got)
	}
	if len(Keys(set(dead("a", dot(1, 1))))) != 0 || len(Plain(set(dead("a", dot(1, 1))))) != 0 {
		t.Error("a key with Dead alone is told")
	}
}

// whole is a list with what stands behind it in its memory.
func whole[T any](l []T) []T { return l[:cap(l)] }

// spoil changes all that the lists of a set have, and what stands behind them.
func spoil(s []api.Entry) {
	for i, x := range s {
		for _, l := range [][]api.Dot{whole(x.Live), whole(x.Dead)} {
			for j := range l {
				l[j] = dot(4, 444)
			}
		}
		s[i] = live("spoilt", dot(4, 444))
	}
}

// roomy is a set in other memory with room behind its lists, so that one that is put behind them would be seen.
func roomy(s []api.Entry) []api.Entry {
	c := slices.Grow(copied(s), 4)
	for i := range c {
		c[i].Live, c[i].Dead = slices.Grow(c[i].Live, 4), slices.Grow(c[i].Dead, 4)
	}
	return c
}

// roomIsClear tells whether nothing was written behind the lists of a set.
func roomIsClear(s []api.Entry) bool {
	isWritten := func(d api.Dot) bool { return d != (api.Dot{}) }
	for _, x := range s {
		if slices.ContainsFunc(whole(x.Live)[len(x.Live):], isWritten) || slices.ContainsFunc(whole(x.Dead)[len(x.Dead):], isWritten) {
			return false
		}
	}
	return text(whole(s)[len(s):]) == text(make([]api.Entry, cap(s)-len(s)))
}

// listsArePart lets each list of a set be spoilt in turn, and tells whether the others stay.
func listsArePart(s []api.Entry) bool {
	var lists [][]api.Dot
	for _, x := range s {
		lists = append(lists, x.Live, x.Dead)
	}
	for i, l := range lists {
		for j := range whole(l) {
			whole(l)[j] = dot(5, 500+i)
		}
	}
	for i, l := range lists {
		if slices.ContainsFunc(l, func(d api.Dot) bool { return d != dot(5, 500+i) }) {
			return false
		}
	}
	return true
}

// R3: no call writes to what it is handed; what it answers shares nothing with it, nor do its lists with each other.
func TestNothingShared(t *testing.T) {
	base := set(live("a", dot(1, 1)), both("k", list(dot(1, 3), dot(2, 1)), list(dot(1, 2), dot(2, 1))), dead("p", dot(1, 2), dot(3, 1)), live("z", dot(1, 3)))
	calls := map[string]func(s []api.Entry, past api.Clock) ([]api.Entry, api.Errno){
		"Clean": Clean,
		"Plain": func(s []api.Entry, past api.Clock) ([]api.Entry, api.Errno) { return Plain(s), api.OK },
	}
	for _, k := range []string{"0", "a", "b", "k", "l", "p", "z", "zz"} {
		calls["Add "+k] = func(s []api.Entry, past api.Clock) ([]api.Entry, api.Errno) { return Add(s, k, dot(3, 1), past) }
		calls["Drop "+k] = func(s []api.Entry, past api.Clock) ([]api.Entry, api.Errno) { return Drop(s, k, dot(3, 1), past) }
	}
	for _, name := range slices.Sorted(maps.Keys(calls)) {
		for _, past := range []api.Clock{nil, {2}, {0, 1}, {2, 1}, {9, 9, 9}} {
			s, p := roomy(base), slices.Clone(past)
			got, e := calls[name](s, p)
			if e != api.OK || text(s) != text(base) || !slices.Equal(p, past) || !roomIsClear(s) {
				t.Fatalf("%s, %v: %d, wrote to what it was handed: %s", name, past, e, text(s))
			}
			want := text(got)
			spoil(s)
			for i := range p {
				p[i] = 77
			}
			if text(got) != want {
				t.Errorf("%s, %v: what it told has changed: %s, was %s", name, past, text(got), want)
			}
			if !listsArePart(got) {
				t.Errorf("%s, %v: two lists share", name, past)
			}
		}
	}
}

// R3: what is told of a set stays when the set is changed, and the set when what is told of it is.
func TestKeysAndHasAreReadings(t *testing.T) {
	base := set(live("a", dot(1, 1)), dead("b", dot(1, 2)), both("c", list(dot(1, 4)), list(dot(1, 3))))
	s := roomy(base)
	keys := Keys(s)
	if Check(s) != api.OK || !Has(s, "a") || text(s) != text(base) || !roomIsClear(s) {
		t.Errorf("a set that was read has changed: %s", text(s))
	}
	spoil(s)
	if !slices.Equal(keys, []string{"a", "c"}) {
		t.Errorf("Keys have changed: %q", keys)
	}
	s = roomy(base)
	keys = Keys(s)
	keys[0] = "z"
	if text(s) != text(base) {
		t.Errorf("the set has changed by its keys: %s", text(s))
	}
}

// The chapter's example, done in both orders; and that an add that knew the drop holds.
func TestExample(t *testing.T) {
	s, e := Add(nil, "k", dot(1, 1), nil)
	hold(t, "Add", s, e, set(live("k", dot(1, 1))))
	gone, e := Drop(s, "k", dot(2, 1), nil)
	hold(t, "Drop behind Add", gone, e, set(dead("k", dot(2, 1))))
	s, e = Drop(nil, "k", dot(2, 1), nil)
	hold(t, "Drop", s, e, set(dead("k", dot(2, 1))))
	other, e := Add(s, "k", dot(1, 1), nil)
	hold(t, "Add behind Drop", other, e, set(dead("k", dot(2, 1))))
	if Has(gone, "k") || Has(other, "k") {
		t.Error("the key is there")
	}
	again, e := Add(gone, "k", dot(1, 2), api.Clock{1, 1})
	hold(t, "Add that knew it", again, e, set(both("k", list(dot(1, 2)), list(dot(2, 1)))))
	if !Has(again, "k") {
		t.Error("the key is not there")
	}
}

// deed is an event on one key: an add, or a drop.
type deed struct {
	d    api.Dot
	past api.Clock
	key  string
	add  bool
}

// knows tells whether a clock has a dot.
func knows(c api.Clock, d api.Dot) bool {
	return d.Rep <= len(c) && d.Seq <= c[d.Rep-1]
}

func (x deed) isAheadOf(y deed) bool { return knows(y.past, x.d) }

func do(t *testing.T, s []api.Entry, x deed) []api.Entry {
	t.Helper()
	call := Drop
	if x.add {
		call = Add
	}
	s, e := call(s, x.key, x.d, x.past)
	if e != api.OK || Check(s) != api.OK {
		t.Fatalf("%v: %d, %s", x, e, text(s))
	}
	return s
}

// last is the dots of those events that are ahead of no other one of them, in order.
func last(l []deed) []api.Dot {
	var out []api.Dot
	for _, x := range l {
		if !slices.ContainsFunc(l, x.isAheadOf) {
			out = append(out, x.d)
		}
	}
	slices.SortFunc(out, func(a, b api.Dot) int { return (a.Rep-b.Rep)*2*most + a.Seq - b.Seq })
	return out
}

// asPromised is Rw3's set: of each key Live are the adds that all drops of it are ahead of, and that are ahead of no other such. Dead, by the chapter's words, are the drops that are ahead of no other one, without those that were cleaned.
func asPromised(l []deed, cleaned api.Clock) []api.Entry {
	adds, drops := map[string][]deed{}, map[string][]deed{}
	keys := map[string]int{}
	for _, x := range l {
		keys[x.key]++
		if !x.add {
			drops[x.key] = append(drops[x.key], x)
		}
	}
	for _, x := range l {
		if x.add && !slices.ContainsFunc(drops[x.key], func(y deed) bool { return !y.isAheadOf(x) }) {
			adds[x.key] = append(adds[x.key], x)
		}
	}
	var s []api.Entry
	for _, k := range slices.Sorted(maps.Keys(keys)) {
		x := both(k, last(adds[k]), slices.DeleteFunc(last(drops[k]), func(d api.Dot) bool { return knows(cleaned, d) }))
		if len(x.Live)+len(x.Dead) > 0 {
			s = append(s, x)
		}
	}
	return s
}

// history is n events of some replicas, each of which hears of others' now and then: all that is ahead of one is there.
func history(r *rand.Rand, n, reps int, keys []string) []deed {
	knows := make([][5]int, reps)
	var l []deed
	for range n {
		me := r.Intn(reps)
		if r.Intn(2) == 0 {
			for i, m := range knows[r.Intn(reps)] {
				knows[me][i] = max(knows[me][i], m)
			}
		}
		past := slices.Clone(api.Clock(knows[me][:reps]))
		knows[me][me]++
		l = append(l, deed{dot(me+1, knows[me][me]), past, keys[r.Intn(len(keys))], r.Intn(5) > 1})
	}
	return l
}

// shuffled is events in another order in which what is ahead of an event is ahead of it.
func shuffled(r *rand.Rand, l []deed) []deed {
	left := slices.Clone(l)
	var out []deed
	for len(left) > 0 {
		i := r.Intn(len(left))
		if !slices.ContainsFunc(left, func(x deed) bool { return x.isAheadOf(left[i]) }) {
			out = append(out, left[i])
			left = slices.Delete(left, i, i+1)
		}
	}
	return out
}

// known is the greatest clock that is within what was done, and within the Pasts of all later events.
func known(done, later []deed) api.Clock {
	c := make(api.Clock, 5)
	for _, x := range done {
		c[x.d.Rep-1] = max(c[x.d.Rep-1], x.d.Seq)
	}
	for _, x := range later {
		for i := range c {
			n := 0
			if i < len(x.past) {
				n = x.past[i]
			}
			c[i] = min(c[i], n)
		}
	}
	return c
}

// Rw3: in several orders, at each step, the Live are those adds that all drops are ahead of, and that are ahead of no other such.
func TestOrders(t *testing.T) {
	r := rand.New(rand.NewSource(9))
	for range 300 {
		l := history(r, 1+r.Intn(24), 1+r.Intn(5), []string{"a", "b", "c"}[:1+r.Intn(3)])
		for range 4 {
			var s []api.Entry
			order := shuffled(r, l)
			for i, x := range order {
				s = do(t, s, x)
				if want := asPromised(order[:i+1], nil); text(s) != text(want) {
					t.Fatalf("%v: got %s, want %s", order[:i+1], text(s), text(want))
				}
			}
		}
	}
}

// lessened is a clock that is within another one.
func lessened(r *rand.Rand, c api.Clock) api.Clock {
	out := slices.Clone(c)
	for i := range out {
		out[i] -= r.Intn(min(out[i], 2) + 1)
	}
	return out
}

// Rw3: cleaned in between by clocks that all later events' Pasts are not below, Plain is the same as it is uncleaned.
func TestOrdersCleaned(t *testing.T) {
	r := rand.New(rand.NewSource(99))
	let := 0
	for range 600 {
		l := history(r, 1+r.Intn(24), 1+r.Intn(4), []string{"a", "b", "c"}[:1+r.Intn(3)])
		order := shuffled(r, l)
		cleaned := make(api.Clock, 5)
		var s, uncleaned []api.Entry
		for i, x := range order {
			s, uncleaned = do(t, s, x), do(t, uncleaned, x)
			if r.Intn(2) == 0 {
				c := lessened(r, known(order[:i+1], order[i+1:]))
				var e api.Errno
				if s, e = Clean(s, c); e != api.OK || Check(s) != api.OK {
					t.Fatalf("Clean by %v: %d, %s", c, e, text(s))
				}
				for j, n := range c {
					cleaned[j] = max(cleaned[j], n)
				}
			}
			if text(Plain(s)) != text(Plain(uncleaned)) || !slices.Equal(Keys(s), Keys(uncleaned)) {
				t.Fatalf("%v: cleaned %s, else %s", order[:i+1], text(s), text(uncleaned))
			}
			if want := asPromised(order[:i+1], cleaned); text(s) != text(want) {
				t.Fatalf("%v, cleaned %v: got %s, want %s", order[:i+1], cleaned, text(s), text(want))
			}
			if i < len(order)-1 && text(s) != text(uncleaned) {
				let++
			}
		}
	}
	if let < 300 {
		t.Errorf("only %d steps ahead of the end let go of drops", let)
	}
}

// everyOrder calls f with each order of the events in which what is ahead of an event is ahead of it.
func everyOrder(done, left []deed, f func([]deed)) {
	if len(left) == 0 {
		f(done)
	}
	for i, x := range left {
		if !slices.ContainsFunc(left, func(y deed) bool { return y.isAheadOf(x) }) {
			everyOrder(append(slices.Clone(done), x), slices.Delete(slices.Clone(left), i, i+1), f)
		}
	}
}

// Rw3: the same of all orders of few events, uncleaned, and cleaned at each step by all that may be let go of.
func TestAllOrders(t *testing.T) {
	r := rand.New(rand.NewSource(999))
	for range 150 {
		l := history(r, 5, 3, []string{"a", "b"}[:1+r.Intn(2)])
		want := asPromised(l, nil)
		everyOrder(nil, l, func(order []deed) {
			var s, cleaned []api.Entry
			for i, x := range order {
				s, cleaned = do(t, s, x), do(t, cleaned, x)
				cleaned, _ = Clean(cleaned, known(order[:i+1], order[i+1:]))
			}
			if text(s) != text(want) || text(cleaned) != text(withoutDead(want)) {
				t.Fatalf("%v: got %s, cleaned %s, want %s", order, text(s), text(cleaned), text(want))
			}
		})
	}
}
