package awset

import (
	"fmt"
	"maps"
	"math"
	"math/rand"
	"slices"
	"strings"
	"testing"

	"huckster/api"
)

// most is the greatest number that a dot, or a clock, has.
const most = api.MaxSeq

// dot is a dot in short.
func dot(rep, seq int) api.Dot { return api.Dot{Rep: rep, Seq: seq} }

// entry is a key and its Live in short.
func entry(key string, live ...api.Dot) api.Entry { return api.Entry{Key: key, Live: live} }

// set is a set in short.
func set(l ...api.Entry) []api.Entry { return l }

// many is a set of n keys, each of 4 bytes, every second number, so that there are keys ahead of, between and behind them.
func many(n int) []api.Entry {
	var s []api.Entry
	for i := range n {
		s = append(s, entry(manyKey(2*i+1), dot(1, i+1)))
	}
	return s
}

func manyKey(i int) string { return fmt.Sprintf("%04d", i) }

// clone is a set in other memory.
func clone(s []api.Entry) []api.Entry {
	var c []api.Entry
	for _, x := range s {
		c = append(c, api.Entry{Key: x.Key, Live: slices.Clone(x.Live), Dead: slices.Clone(x.Dead)})
	}
	return c
}

// text is all that a set has, as a text: sets are held against each other without the package's own functions.
func text(s []api.Entry) string {
	var b strings.Builder
	for _, x := range s {
		fmt.Fprintf(&b, "%q live %v dead %v;", x.Key, x.Live, x.Dead)
	}
	return b.String()
}

// hold tells whether an answer is the set that is asked for.
func hold(t *testing.T, what string, got []api.Entry, e api.Errno, want []api.Entry) {
	t.Helper()
	if e != api.OK || text(got) != text(want) {
		t.Errorf("%s: got %s, %d, want %s", what, text(got), e, text(want))
	}
}

// refuse tells whether an answer is an error, and nothing beside it.
func refuse(t *testing.T, what string, got []api.Entry, e, want api.Errno) {
	t.Helper()
	if e != want || len(got) != 0 {
		t.Errorf("%s: got %s, %d, want nothing, %d", what, text(got), e, want)
	}
}

// rightKeys are keys that may be.
func rightKeys() []string {
	return []string{"k", "\x00", "\xff", "\xff\xfe\x80", "kk", "é", strings.Repeat("k", 31), strings.Repeat("k", 32), strings.Repeat("\x80", 32), strings.Repeat("é", 16)}
}

// wrongKeys are keys that may not be.
func wrongKeys() []string {
	return []string{"", strings.Repeat("k", 33), strings.Repeat("\x00", 33), strings.Repeat("é", 17), strings.Repeat("k", 5000)}
}

// rightDots are dots that may be, in order.
func rightDots() []api.Dot {
	return []api.Dot{dot(1, 1), dot(1, 2), dot(1, most), dot(2, 1), dot(3, 7), dot(5, 1), dot(5, most)}
}

// wrongDots are dots that may not be.
func wrongDots() []api.Dot {
	return []api.Dot{{}, dot(0, 1), dot(1, 0), dot(6, 1), dot(-1, 1), dot(1, -1), dot(1, most+1), dot(5, most+1), dot(1<<32+1, 1), dot(1, 1<<32+1), dot(math.MaxInt, 1), dot(1, math.MinInt)}
}

// rightPasts are clocks that may be, plain or not.
func rightPasts() []api.Clock {
	return []api.Clock{nil, {}, {0}, {1}, {0, 0, 0, 0, 0}, {1, 2, 0}, {0, 0, 0, 0, most}, {most, most, most, most, most}}
}

// wrongPasts are clocks that may not be.
func wrongPasts() []api.Clock {
	return []api.Clock{{-1}, {most + 1}, {0, 0, 0, 0, 0, 0}, {1, 2, 3, 4, 5, 6}, {1, math.MinInt}, {0, 0, 0, 0, math.MaxInt}}
}

// rightSets are sets that may be.
func rightSets() [][]api.Entry {
	l := [][]api.Entry{
		nil, {}, many(1), many(2), many(3999), many(4000),
		set(entry("k", rightDots()...)), set(api.Entry{Key: "k", Live: []api.Dot{dot(1, 1)}, Dead: []api.Dot{}}),
		set(entry("a", dot(1, 1)), entry("b", dot(1, 1))), set(entry("a", dot(2, 1)), entry("b", dot(1, 1))),
		set(entry("a", dot(1, 1)), entry("aa", dot(1, 2)), entry("b", dot(1, 3))), set(entry("Z", dot(1, 1)), entry("a", dot(1, 2))),
		set(entry("\x00", dot(1, 1)), entry("\x00\x00", dot(1, 2)), entry("\x7f", dot(1, 3)), entry("\x80", dot(1, 4)), entry("\xff", dot(1, 5))),
		set(entry(strings.Repeat("k", 31), dot(1, 1)), entry(strings.Repeat("k", 32), dot(1, 1))),
	}
	for _, k := range rightKeys() {
		l = append(l, set(entry(k, dot(1, 1))))
	}
	for _, d := range rightDots() {
		l = append(l, set(entry("k", d)))
	}
	return l
}

// wrongSets are sets that may not be, each for one reason alone.
func wrongSets() [][]api.Entry {
	l := [][]api.Entry{
		// Too many keys.
		many(4001), many(4999),
		// Keys that are the same, or do not rise.
		set(entry("a", dot(1, 1)), entry("a", dot(1, 2))), set(entry("a", dot(1, 1)), entry("a", dot(1, 1))), set(entry("b", dot(1, 1)), entry("a", dot(1, 2))),
		set(entry("a", dot(1, 1)), entry("c", dot(1, 2)), entry("b", dot(1, 3))), set(entry("b", dot(1, 1)), entry("a", dot(1, 2)), entry("c", dot(1, 3))),
		set(entry("aa", dot(1, 1)), entry("a", dot(1, 2))), set(entry("a", dot(1, 1)), entry("Z", dot(1, 2))), set(entry("\x80", dot(1, 1)), entry("\x7f", dot(1, 2))),
		set(entry("a", dot(1, 1)), entry("b", dot(1, 2)), entry("a", dot(1, 3))),
		// A key without Live.
		set(entry("k")), set(api.Entry{Key: "k", Live: []api.Dot{}}), set(api.Entry{}), set(entry("a", dot(1, 1)), entry("b")), set(entry("a"), entry("b", dot(1, 1))),
		// Live that are not in order, or twice the same.
		set(entry("k", dot(1, 2), dot(1, 1))), set(entry("k", dot(2, 1), dot(1, 2))), set(entry("k", dot(1, 1), dot(1, 1))),
		set(entry("k", dot(1, 1), dot(2, 1), dot(1, 2))), set(entry("k", dot(1, 1), dot(1, 3), dot(1, 2))), set(entry("k", dot(1, 1), dot(1, 2), dot(1, 2))),
		// Dead.
		set(api.Entry{Key: "k", Live: []api.Dot{dot(1, 1)}, Dead: []api.Dot{dot(1, 2)}}), set(api.Entry{Key: "k", Live: []api.Dot{dot(1, 1)}, Dead: []api.Dot{{}}}),
		set(api.Entry{Key: "k", Dead: []api.Dot{dot(1, 2)}}), set(entry("a", dot(1, 1)), api.Entry{Key: "k", Live: []api.Dot{dot(1, 1)}, Dead: []api.Dot{dot(1, 2)}}),
	}
	for _, k := range wrongKeys() {
		l = append(l, set(entry(k, dot(1, 1))))
	}
	// Keys that rise, the last one of which is too long, or the first one of no bytes.
	l = append(l, set(entry("a", dot(1, 1)), entry(strings.Repeat("k", 33), dot(1, 1))), set(entry("", dot(1, 1)), entry("a", dot(1, 1))))
	for _, d := range wrongDots() {
		l = append(l, set(entry("k", d)), set(entry("a", dot(1, 1)), entry("k", d)))
	}
	// Dots in order, one end of which may not be.
	return append(l, set(entry("k", dot(1, 0), dot(1, 1))), set(entry("k", dot(1, 1), dot(1, most+1))), set(entry("k", dot(1, 1), dot(6, 1))), set(entry("k", dot(0, 1), dot(1, 1))))
}

// Aw1: Check tells whether a set may be.
func TestCheck(t *testing.T) {
	for i, s := range rightSets() {
		if e := Check(s); e != api.OK {
			t.Errorf("right set %d: got %d", i, e)
		}
	}
	for i, s := range wrongSets() {
		if e := Check(s); e != api.ErrArg {
			t.Errorf("wrong set %d: got %d", i, e)
		}
	}
}

// Aw1: Add and Drop answer ErrArg, and no set, where the set, the key, the Dot or the Past may not be.
func TestWrongArguments(t *testing.T) {
	for i, s := range wrongSets() {
		what := fmt.Sprintf("wrong set %d", i)
		got, e := Add(s, "k", dot(1, 9), nil)
		refuse(t, "Add, "+what, got, e, api.ErrArg)
		got, e = Drop(s, "k", api.Clock{9})
		refuse(t, "Drop, "+what, got, e, api.ErrArg)
	}
	// At 4000 keys a new one is too many as well: what may not be is told first.
	for _, s := range [][]api.Entry{nil, set(entry("k", dot(1, 1))), many(4000)} {
		for _, k := range wrongKeys() {
			got, e := Add(s, k, dot(1, 9), nil)
			refuse(t, fmt.Sprintf("Add, key %q", k), got, e, api.ErrArg)
			got, e = Drop(s, k, api.Clock{9})
			refuse(t, fmt.Sprintf("Drop, key %q", k), got, e, api.ErrArg)
		}
		for _, d := range wrongDots() {
			got, e := Add(s, "k", d, nil)
			refuse(t, fmt.Sprintf("Add, dot %v", d), got, e, api.ErrArg)
		}
		for _, p := range wrongPasts() {
			got, e := Add(s, "k", dot(1, 9), p)
			refuse(t, fmt.Sprintf("Add, Past %v", p), got, e, api.ErrArg)
			got, e = Drop(s, "k", p)
			refuse(t, fmt.Sprintf("Drop, Past %v", p), got, e, api.ErrArg)
		}
	}
}

// Aw1: all keys, Dots and Pasts that may be are taken.
func TestRightArguments(t *testing.T) {
	for _, k := range rightKeys() {
		for _, d := range rightDots() {
			for _, p := range rightPasts() {
				got, e := Add(nil, k, d, p)
				hold(t, fmt.Sprintf("Add, %q %v %v", k, d, p), got, e, set(entry(k, d)))
				got, e = Drop(nil, k, p)
				hold(t, fmt.Sprintf("Drop, %q %v", k, p), got, e, nil)
			}
		}
	}
}

// Aw1: a key that is not there is added where its bytes stand: ahead of all, between and behind all.
func TestAddOfNewKey(t *testing.T) {
	s := set(entry("b", dot(1, 1)), entry("d", dot(1, 2), dot(2, 1)))
	for _, c := range []struct {
		key  string
		want []api.Entry
	}{
		{"a", set(entry("a", dot(3, 4)), s[0], s[1])},
		{"c", set(s[0], entry("c", dot(3, 4)), s[1])},
		{"bb", set(s[0], entry("bb", dot(3, 4)), s[1])},
		{"e", set(s[0], s[1], entry("e", dot(3, 4)))},
		{"\x00", set(entry("\x00", dot(3, 4)), s[0], s[1])},
		{"\xff", set(s[0], s[1], entry("\xff", dot(3, 4)))},
	} {
		// What the Past has of other keys does not matter.
		for _, p := range rightPasts() {
			got, e := Add(s, c.key, dot(3, 4), p)
			hold(t, fmt.Sprintf("Add %q, %v", c.key, p), got, e, c.want)
		}
	}
}

// Aw1: a key's Live are then those that the Past has not, and the Dot, in order.
func TestAddOfKeyThatIsThere(t *testing.T) {
	live := []api.Dot{dot(1, 2), dot(1, 5), dot(2, 1), dot(4, 3)}
	for _, c := range []struct {
		d    api.Dot
		past api.Clock
		want []api.Dot
	}{
		// The Past has none of them.
		{dot(3, 1), nil, []api.Dot{dot(1, 2), dot(1, 5), dot(2, 1), dot(3, 1), dot(4, 3)}},
		{dot(3, 1), api.Clock{1, 0, 9, 2, 9}, []api.Dot{dot(1, 2), dot(1, 5), dot(2, 1), dot(3, 1), dot(4, 3)}},
		{dot(1, 1), nil, []api.Dot{dot(1, 1), dot(1, 2), dot(1, 5), dot(2, 1), dot(4, 3)}},
		{dot(5, 1), nil, []api.Dot{dot(1, 2), dot(1, 5), dot(2, 1), dot(4, 3), dot(5, 1)}},
		// It has some.
		{dot(3, 1), api.Clock{2}, []api.Dot{dot(1, 5), dot(2, 1), dot(3, 1), dot(4, 3)}},
		{dot(3, 1), api.Clock{4, 1}, []api.Dot{dot(1, 5), dot(3, 1), dot(4, 3)}},
		{dot(3, 1), api.Clock{0, 0, 0, 3}, []api.Dot{dot(1, 2), dot(1, 5), dot(2, 1), dot(3, 1)}},
		{dot(3, 1), api.Clock{0, 7, 0, 0, 0}, []api.Dot{dot(1, 2), dot(1, 5), dot(3, 1), dot(4, 3)}},
		// It has all.
		{dot(3, 1), api.Clock{5, 1, 0, 3}, []api.Dot{dot(3, 1)}},
		{dot(5, most), api.Clock{most, most, most, most, most}, []api.Dot{dot(5, most)}},
		// The Dot is there already.
		{dot(1, 5), nil, live},
		{dot(1, 5), api.Clock{2}, []api.Dot{dot(1, 5), dot(2, 1), dot(4, 3)}},
		{dot(4, 3), api.Clock{0, 1}, []api.Dot{dot(1, 2), dot(1, 5), dot(4, 3)}},
		// The Past has the Dot, which is there already, or is not.
		{dot(1, 5), api.Clock{5}, []api.Dot{dot(1, 5), dot(2, 1), dot(4, 3)}},
		{dot(1, 3), api.Clock{5, 1, 0, 3}, []api.Dot{dot(1, 3)}},
	} {
		s := set(entry("a", dot(1, 2)), entry("k", live...), entry("z", dot(2, 1)))
		got, e := Add(s, "k", c.d, c.past)
		hold(t, fmt.Sprintf("Add %v, %v", c.d, c.past), got, e, set(s[0], entry("k", c.want...), s[2]))
	}
}

// Aw1: Drop lets a key's Live be those that the Past has not; with none the key is gone, and one that is not there stays so.
func TestDrop(t *testing.T) {
	s := set(entry("b", dot(1, 1)), entry("k", dot(1, 2), dot(1, 5), dot(4, 3)), entry("y", dot(1, 1), dot(2, 2)))
	all := api.Clock{most, most, most, most, most}
	for _, c := range []struct {
		key  string
		past api.Clock
		want []api.Entry
	}{
		{"k", nil, s},
		{"k", api.Clock{1, 9, 9, 2, 9}, s},
		{"k", api.Clock{2}, set(s[0], entry("k", dot(1, 5), dot(4, 3)), s[2])},
		{"k", api.Clock{5, 0, 0, 2}, set(s[0], entry("k", dot(4, 3)), s[2])},
		{"k", api.Clock{4, 0, 0, 3}, set(s[0], entry("k", dot(1, 5)), s[2])},
		{"k", api.Clock{5, 0, 0, 3}, set(s[0], s[2])},
		{"b", api.Clock{1}, set(s[1], s[2])},
		{"y", api.Clock{1}, set(s[0], s[1], entry("y", dot(2, 2)))},
		{"y", api.Clock{1, 2}, set(s[0], s[1])},
		{"a", all, s}, {"c", all, s}, {"z", all, s}, {"kk", all, s},
	} {
		got, e := Drop(s, c.key, c.past)
		hold(t, fmt.Sprintf("Drop %q, %v", c.key, c.past), got, e, c.want)
	}
	got, e := Drop(set(entry("k", dot(1, 1))), "k", api.Clock{1})
	hold(t, "Drop of the last Live of the last key", got, e, nil)
}

// Aw1: a key more than 4000 is ErrFull; at 4000 those that are there are added to and dropped, and then there is room.
func TestFull(t *testing.T) {
	s := many(4000)
	for _, k := range []string{manyKey(0), manyKey(4000), manyKey(7998), "\xff"} {
		for _, p := range rightPasts() {
			got, e := Add(s, k, dot(2, 1), p)
			refuse(t, "Add of "+k+" to 4000", got, e, api.ErrFull)
		}
		got, e := Drop(s, k, api.Clock{most})
		hold(t, "Drop of "+k+" of 4000", got, e, s)
	}
	for _, i := range []int{0, 2000, 3999} {
		want := clone(s)
		want[i].Live = append(want[i].Live, dot(2, 1))
		got, e := Add(s, s[i].Key, dot(2, 1), nil)
		hold(t, "Add to one of 4000", got, e, want)
		want[i].Live = []api.Dot{dot(2, 1)}
		got, e = Add(s, s[i].Key, dot(2, 1), api.Clock{most})
		hold(t, "Add in place of one of 4000", got, e, want)

		less, e := Drop(s, s[i].Key, api.Clock{most})
		hold(t, "Drop of one of 4000", less, e, slices.Delete(clone(s), i, i+1))
		got, e = Add(less, manyKey(2*i), dot(2, 1), nil)
		if e != api.OK || len(got) != 4000 || !Has(got, manyKey(2*i)) {
			t.Errorf("Add of %s to 3999: %d keys, %d", manyKey(2*i), len(got), e)
		}
	}
}

// Aw1: Has tells whether a key is there: none is in a set that may not be.
func TestHas(t *testing.T) {
	s := set(entry("b", dot(1, 1)), entry("d", dot(1, 2)), entry(strings.Repeat("k", 32), dot(1, 3)), entry("\xff", dot(1, 4)))
	for _, x := range s {
		if !Has(s, x.Key) {
			t.Errorf("Has %q: false", x.Key)
		}
	}
	for _, k := range []string{"a", "c", "z", "bb", "B", "", strings.Repeat("k", 31), strings.Repeat("k", 33), "\xff\xff"} {
		if Has(s, k) || Has(nil, k) {
			t.Errorf("Has %q: true", k)
		}
	}
	if full := many(4000); !Has(full, manyKey(1)) || !Has(full, manyKey(7999)) || Has(full, manyKey(4000)) || Has(full, "") {
		t.Error("Has of 4000 keys")
	}
	for i, s := range wrongSets() {
		for _, x := range s {
			if Has(s, x.Key) {
				t.Fatalf("wrong set %d has %q", i, x.Key)
			}
		}
	}
}

// Aw1: Keys is all keys: none of a set that may not be.
func TestKeys(t *testing.T) {
	for i, s := range rightSets() {
		var want []string
		for _, x := range s {
			want = append(want, x.Key)
		}
		if got := Keys(s); !slices.Equal(got, want) {
			t.Errorf("right set %d: got %q, want %q", i, got, want)
		}
	}
	for i, s := range wrongSets() {
		if got := Keys(s); len(got) != 0 {
			t.Errorf("wrong set %d: got %q", i, got)
		}
	}
}

// Aw1: Same tells whether sets are alike, whether they may be or not; no list is as an empty one.
func TestSame(t *testing.T) {
	all := append(rightSets(), wrongSets()...)
	for i, a := range all {
		for j, b := range all {
			// Sets of many keys are compared by how many there are: their texts are long.
			want := len(a) == len(b) && (len(a) > 100 || text(a) == text(b))
			if got := Same(a, b); got != want {
				t.Errorf("sets %d and %d: got %v", i, j, got)
			}
		}
		if !Same(a, clone(a)) || !Same(clone(a), a) {
			t.Errorf("set %d is not as itself", i)
		}
	}
	bare := set(api.Entry{Key: "k", Live: []api.Dot{dot(1, 1)}})
	if !Same(bare, set(api.Entry{Key: "k", Live: []api.Dot{dot(1, 1)}, Dead: []api.Dot{}})) || !Same(nil, []api.Entry{}) || !Same(set(api.Entry{Key: "k"}), set(api.Entry{Key: "k", Live: []api.Dot{}})) {
		t.Error("an empty list is not as none")
	}
	base := set(entry("a", dot(1, 1)), entry("k", dot(1, 2), dot(2, 1)))
	for i, other := range [][]api.Entry{
		base[:1], base[1:], append(clone(base), entry("z", dot(1, 1))), set(base[1], base[0]),
		set(base[0], entry("l", dot(1, 2), dot(2, 1))), set(base[0], entry("k", dot(1, 2))), set(base[0], entry("k", dot(1, 2), dot(2, 2))),
		set(base[0], entry("k", dot(1, 2), dot(3, 1))), set(base[0], entry("k", dot(1, 2), dot(2, 1), dot(2, 2))), set(entry("A", dot(1, 1)), base[1]),
		set(base[0], api.Entry{Key: "k", Live: base[1].Live, Dead: []api.Dot{dot(1, 1)}}),
	} {
		if Same(base, other) || Same(other, base) {
			t.Errorf("other %d is the same", i)
		}
	}
}

// spoil changes all that a list of a set has, and what stands behind it.
func spoil(s []api.Entry) {
	for i := range s {
		for j := range s[i].Live[:cap(s[i].Live)] {
			s[i].Live[:cap(s[i].Live)][j] = dot(4, 444)
		}
		s[i] = entry("spoilt", dot(4, 444))
	}
}

// R3: no call writes to what it is handed; what it answers shares nothing with it, nor do its lists with each other.
func TestNothingShared(t *testing.T) {
	base := set(entry("a", dot(1, 1)), entry("k", dot(1, 2), dot(2, 1)), entry("z", dot(1, 3)))
	calls := map[string]func(s []api.Entry, past api.Clock) ([]api.Entry, api.Errno){}
	for _, k := range []string{"0", "a", "b", "k", "l", "z", "zz"} {
		calls["Add "+k] = func(s []api.Entry, past api.Clock) ([]api.Entry, api.Errno) { return Add(s, k, dot(3, 1), past) }
		calls["Drop "+k] = func(s []api.Entry, past api.Clock) ([]api.Entry, api.Errno) { return Drop(s, k, past) }
	}
	for _, name := range slices.Sorted(maps.Keys(calls)) {
		for _, past := range []api.Clock{nil, {2}, {0, 1}, {9, 9}} {
			// Room behind lists, so that one that is put behind them would be seen.
			s := slices.Grow(clone(base), 4)
			for i := range s {
				s[i].Live = slices.Grow(s[i].Live, 4)
			}
			p := slices.Clone(past)
			got, e := calls[name](s, p)
			if e != api.OK || text(s) != text(base) || !slices.Equal(p, past) {
				t.Fatalf("%s, %v: wrote to what it was handed: %s", name, past, text(s))
			}
			for i := range s {
				if behind := s[i].Live[:cap(s[i].Live)][len(s[i].Live)]; behind != (api.Dot{}) {
					t.Errorf("%s, %v: wrote behind a list: %v", name, past, behind)
				}
			}
			if behind := s[:cap(s)][len(s)]; behind.Key != "" {
				t.Errorf("%s, %v: wrote behind the set", name, past)
			}
			want := text(got)
			spoil(s)
			for i := range p {
				p[i] = 77
			}
			if text(got) != want {
				t.Errorf("%s, %v: what it told has changed: %s, was %s", name, past, text(got), want)
			}
			lists := clone(got)
			for i := range got {
				got[i].Live = append(got[i].Live, dot(5, 555))
				got[i].Live[0] = dot(5, 5)
				for j := i + 1; j < len(got); j++ {
					if !slices.Equal(got[j].Live, lists[j].Live) {
						t.Errorf("%s, %v: two lists share", name, past)
					}
				}
			}
		}
	}
	s := clone(base)
	keys := Keys(s)
	spoil(s)
	if !slices.Equal(keys, []string{"a", "k", "z"}) {
		t.Errorf("Keys have changed: %q", keys)
	}
}

// The chapter's example, and that an add holds against a drop that did not know it.
func TestExample(t *testing.T) {
	s, e := Add(nil, "k", dot(1, 1), nil)
	hold(t, "Add", s, e, set(entry("k", dot(1, 1))))
	gone, e := Drop(s, "k", api.Clock{1})
	hold(t, "Drop that knew it", gone, e, nil)
	stays, e := Drop(s, "k", api.Clock{0, 3})
	hold(t, "Drop that did not", stays, e, s)
	if Has(gone, "k") || !Has(stays, "k") {
		t.Error("Has")
	}
}

// deed is an event on one key: an add, or a drop.
type deed struct {
	d    api.Dot
	past api.Clock
	key  string
	add  bool
}

func (x deed) isAheadOf(y deed) bool {
	return x.d.Seq <= slices.Concat(y.past, make(api.Clock, 5))[x.d.Rep-1]
}

func do(t *testing.T, s []api.Entry, x deed) []api.Entry {
	t.Helper()
	var e api.Errno
	if x.add {
		s, e = Add(s, x.key, x.d, x.past)
	} else {
		s, e = Drop(s, x.key, x.past)
	}
	if e != api.OK || Check(s) != api.OK {
		t.Fatalf("%v: %d, %s", x, e, text(s))
	}
	return s
}

// asPromised is Aw2's set: of each key the adds that are ahead of no other add or drop of it.
func asPromised(l []deed) []api.Entry {
	live := map[string][]api.Dot{}
	for i, x := range l {
		holds := x.add
		for j, y := range l {
			holds = holds && (i == j || x.key != y.key || !x.isAheadOf(y))
		}
		if holds {
			live[x.key] = append(live[x.key], x.d)
		}
	}
	var s []api.Entry
	for _, k := range slices.Sorted(maps.Keys(live)) {
		slices.SortFunc(live[k], func(a, b api.Dot) int { return (a.Rep-b.Rep)*2*most + a.Seq - b.Seq })
		s = append(s, entry(k, live[k]...))
	}
	return s
}

// history is n events of some replicas, each of which hears of others' now and then: all that is ahead of one is there.
func history(r *rand.Rand, n, reps int, keys []string) []deed {
	knows := make([][5]int, reps)
	var l []deed
	for range n {
		me := r.Intn(reps)
		if r.Intn(2) == 0 {
			for i, m := range knows[r.Intn(reps)] {
				knows[me][i] = max(knows[me][i], m)
			}
		}
		past := slices.Clone(api.Clock(knows[me][:reps]))
		knows[me][me]++
		l = append(l, deed{dot(me+1, knows[me][me]), past, keys[r.Intn(len(keys))], r.Intn(3) > 0})
	}
	return l
}

// shuffled is events in another order in which what is ahead of an event is ahead of it.
func shuffled(r *rand.Rand, l []deed) []deed {
	left := slices.Clone(l)
	var out []deed
	for len(left) > 0 {
		i := r.Intn(len(left))
		if !slices.ContainsFunc(left, func(x deed) bool { return x.isAheadOf(left[i]) }) {
			out = append(out, left[i])
			left = slices.Delete(left, i, i+1)
		}
	}
	return out
}

// Aw2: in several orders, at each step, the Live are those adds that are ahead of no other add or drop of the key.
func TestOrders(t *testing.T) {
	r := rand.New(rand.NewSource(8))
	for range 300 {
		l := history(r, 1+r.Intn(24), 1+r.Intn(5), []string{"a", "b", "c"}[:1+r.Intn(3)])
		for range 4 {
			var s []api.Entry
			order := shuffled(r, l)
			for i, x := range order {
				s = do(t, s, x)
				if want := asPromised(order[:i+1]); text(s) != text(want) {
					t.Fatalf("%v: got %s, want %s", order[:i+1], text(s), text(want))
				}
			}
		}
	}
}

// everyOrder calls f with each order of the events in which what is ahead of an event is ahead of it.
func everyOrder(done, left []deed, f func([]deed)) {
	if len(left) == 0 {
		f(done)
	}
	for i, x := range left {
		if !slices.ContainsFunc(left, func(y deed) bool { return y.isAheadOf(x) }) {
			everyOrder(append(slices.Clone(done), x), slices.Delete(slices.Clone(left), i, i+1), f)
		}
	}
}

// Aw2: the same of all orders of few events.
func TestAllOrders(t *testing.T) {
	r := rand.New(rand.NewSource(88))
	for range 150 {
		l := history(r, 5, 3, []string{"a", "b"}[:1+r.Intn(2)])
		want := text(asPromised(l))
		everyOrder(nil, l, func(order []deed) {
			var s []api.Entry
			for _, x := range order {
				s = do(t, s, x)
			}
			if text(s) != want {
				t.Fatalf("%v: got %s, want %s", order, text(s), want)
			}
		})
	}
}
