package tally

import (
	"fmt"
	"maps"
	"math"
	"math/rand"
	"slices"
	"strings"
	"testing"

	"huckster/api"
)

// most is the greatest number that a key has; the least one is -most.
const most = 1 << 40

// cell is a key and its number in short.
func cell(key string, n int) api.Cell { return api.Cell{Key: key, N: n} }

// list is a tally in short.
func list(l ...api.Cell) []api.Cell { return l }

func manyKey(i int) string { return fmt.Sprintf("%04d", i) }

// many is a tally of n keys of 4 bytes each, every second number, so that there are keys ahead of, between and behind them; their numbers are above and below 0.
func many(n int) []api.Cell {
	var l []api.Cell
	for i := range n {
		l = append(l, cell(manyKey(2*i+1), (i+1)*(1-i%2*2)))
	}
	return l
}

// text is all that a tally has, as a text: tallies are held against each other without the package's own functions.
func text(l []api.Cell) string {
	var b strings.Builder
	for _, x := range l {
		fmt.Fprintf(&b, "%q %d;", x.Key, x.N)
	}
	return b.String()
}

// hold tells whether an answer is the tally that is asked for.
func hold(t *testing.T, what string, got []api.Cell, e api.Errno, want []api.Cell) {
	t.Helper()
	if e != api.OK || text(got) != text(want) {
		t.Errorf("%s: got %s, %d, want %s", what, text(got), e, text(want))
	}
}

// refuse tells whether an answer is an error, and nothing beside it.
func refuse(t *testing.T, what string, got []api.Cell, e, want api.Errno) {
	t.Helper()
	if e != want || len(got) != 0 {
		t.Errorf("%s: got %s, %d, want nothing, %d", what, text(got), e, want)
	}
}

// rightKeys are keys that may be.
func rightKeys() []string {
	return []string{"k", "\x00", "\xff", "\xff\xfe\x80", "kk", "é", strings.Repeat("k", 31), strings.Repeat("k", 32), strings.Repeat("\x80", 32), strings.Repeat("é", 16)}
}

// wrongKeys are keys that may not be.
func wrongKeys() []string {
	return []string{"", strings.Repeat("k", 33), strings.Repeat("\x00", 33), strings.Repeat("é", 17), strings.Repeat("k", 5000)}
}

// rightNumbers are numbers that a key of a tally may have.
func rightNumbers() []int {
	return []int{1, -1, 2, 1000, 1001, -1000, -1001, 1 << 31, 1 << 32, -1 << 32, most - 1, most, -most + 1, -most}
}

// wrongNumbers are numbers that no key of a tally may have.
func wrongNumbers() []int {
	return []int{0, most + 1, -most - 1, 2 * most, -2 * most, math.MaxInt, math.MinInt, math.MinInt + 1}
}

// rightAmounts are amounts that may be added, but for 0.
func rightAmounts() []int { return []int{1, -1, 2, -2, 999, 1000, -999, -1000} }

// wrongAmounts are amounts that may not be added.
func wrongAmounts() []int {
	return []int{1001, -1001, 1 << 32, -1 << 32, 1<<32 + 1, most, -most, math.MaxInt, math.MinInt, math.MinInt + 1}
}

// rightTallies are tallies that may be, no two of them alike but the first two.
func rightTallies() [][]api.Cell {
	l := [][]api.Cell{
		nil, {}, many(1), many(2), many(3), many(3999), many(4000),
		list(cell("a", 1), cell("b", 1)), list(cell("a", 2), cell("b", 1)), list(cell("a", -1), cell("b", 1)),
		list(cell("a", 1), cell("aa", 2), cell("b", 3)), list(cell("Z", 1), cell("a", 2)), list(cell("a", most), cell("b", -most)),
		list(cell("\x00", 1), cell("\x00\x00", 2), cell("\x7f", 3), cell("\x80", 4), cell("\xff", 5)),
		list(cell(strings.Repeat("k", 31), 1), cell(strings.Repeat("k", 32), 1)),
	}
	for _, k := range rightKeys() {
		l = append(l, list(cell(k, 7)))
	}
	for _, n := range rightNumbers() {
		l = append(l, list(cell("k", n)))
	}
	return l
}

// wrongTallies are tallies that may not be, each for one reason alone, but for those of zero values.
func wrongTallies() [][]api.Cell {
	l := [][]api.Cell{
		// Too many keys.
		many(4001), many(4999),
		// Keys that are the same, or do not rise.
		list(cell("a", 1), cell("a", 1)), list(cell("a", 1), cell("a", 2)), list(cell("a", 1), cell("a", -1)), list(cell("b", 1), cell("a", 2)),
		list(cell("a", 1), cell("c", 2), cell("b", 3)), list(cell("b", 1), cell("a", 2), cell("c", 3)), list(cell("a", 1), cell("b", 2), cell("b", 3)), list(cell("a", 1), cell("b", 2), cell("a", 3)),
		list(cell("aa", 1), cell("a", 2)), list(cell("a", 1), cell("Z", 2)), list(cell("\x80", 1), cell("\x7f", 2)), list(cell("\xff", 1), cell("é", 2)),
		// Keys that rise, one of which is of no bytes, or too long.
		list(cell("", 1), cell("a", 2)), list(cell("a", 1), cell(strings.Repeat("k", 33), 2)), list(cell("a", 1), cell(strings.Repeat("k", 33), 2), cell("z", 3)),
		// Zero values.
		list(api.Cell{}), list(cell("a", 1), api.Cell{}), list(api.Cell{}, cell("a", 1)),
	}
	for _, k := range wrongKeys() {
		l = append(l, list(cell(k, 1)))
	}
	for _, n := range wrongNumbers() {
		l = append(l, list(cell("k", n)), list(cell("a", 1), cell("k", n)), list(cell("k", n), cell("z", 1)), list(cell("a", 1), cell("k", n), cell("z", 1)))
	}
	return l
}

// Ta1: Check tells whether a tally may be.
func TestCheck(t *testing.T) {
	for i, l := range rightTallies() {
		if e := Check(l); e != api.OK {
			t.Errorf("right tally %d: got %d", i, e)
		}
	}
	for i, l := range wrongTallies() {
		if e := Check(l); e != api.ErrArg {
			t.Errorf("wrong tally %d: got %d", i, e)
		}
	}
	// The last one of 4000 is looked at too.
	for _, n := range wrongNumbers() {
		l := many(4000)
		l[3999].N = n
		if e := Check(l); e != api.ErrArg {
			t.Errorf("the last one is %d: got %d", n, e)
		}
	}
}

// Ta1: Add answers ErrArg, and no tally, where the tally, the key or the amount may not be.
func TestWrongArguments(t *testing.T) {
	for i, l := range wrongTallies() {
		for _, n := range []int{0, 1, -1, 1000, -1000} {
			for _, k := range []string{"a", "k", "n"} {
				got, e := Add(l, k, n)
				refuse(t, fmt.Sprintf("wrong tally %d, %q %d", i, k, n), got, e, api.ErrArg)
			}
		}
	}
	// At 4000 keys, or at 2^40, more is too much as well: what may not be is told first.
	for i, l := range [][]api.Cell{nil, {}, list(cell("k", 1)), list(cell("k", most)), list(cell("k", -most)), many(3999), many(4000)} {
		for _, k := range wrongKeys() {
			for _, n := range []int{0, 1, -1, 1000} {
				got, e := Add(l, k, n)
				refuse(t, fmt.Sprintf("tally %d, key %q", i, k), got, e, api.ErrArg)
			}
		}
		for _, n := range wrongAmounts() {
			for _, k := range []string{"k", "0001", "new"} {
				got, e := Add(l, k, n)
				refuse(t, fmt.Sprintf("tally %d, %q %d", i, k, n), got, e, api.ErrArg)
			}
		}
	}
}

// Ta1: all keys and amounts that may be are taken, of a key that is there and of one that is not.
func TestRightArguments(t *testing.T) {
	for _, k := range rightKeys() {
		for _, n := range rightAmounts() {
			for _, l := range [][]api.Cell{nil, {}} {
				got, e := Add(l, k, n)
				hold(t, fmt.Sprintf("%q %d", k, n), got, e, list(cell(k, n)))
			}
			got, e := Add(list(cell(k, 5000)), k, n)
			hold(t, fmt.Sprintf("%q 5000 and %d", k, n), got, e, list(cell(k, 5000+n)))
		}
	}
}

// Ta1: each tally that may be takes an amount of each of its keys that stays within the bounds.
func TestRightTallies(t *testing.T) {
	for i, l := range rightTallies() {
		for j := 0; j < len(l); j += 1 + len(l)/50 {
			want := slices.Clone(l)
			n := 3
			if want[j].N > 0 {
				n = -3
			}
			if want[j].N += n; want[j].N == 0 {
				want = slices.Delete(want, j, j+1)
			}
			got, e := Add(l, l[j].Key, n)
			hold(t, fmt.Sprintf("right tally %d, %q %d", i, l[j].Key, n), got, e, want)
		}
	}
}

// Ta1: a key that is not there is put where its bytes stand: ahead of all, between and behind all.
func TestNewKey(t *testing.T) {
	b, d, x := cell("b", 7), cell("d", -7), 12
	for _, c := range []struct {
		key  string
		want []api.Cell
	}{
		{"a", list(cell("a", x), b, d)}, {"\x00", list(cell("\x00", x), b, d)}, {"B", list(cell("B", x), b, d)},
		{"c", list(b, cell("c", x), d)}, {"bb", list(b, cell("bb", x), d)}, {"b\x00", list(b, cell("b\x00", x), d)}, {"c\xff", list(b, cell("c\xff", x), d)},
		{"e", list(b, d, cell("e", x))}, {"dd", list(b, d, cell("dd", x))}, {"\x80", list(b, d, cell("\x80", x))}, {"\xff", list(b, d, cell("\xff", x))},
	} {
		got, e := Add(list(b, d), c.key, x)
		hold(t, fmt.Sprintf("%q", c.key), got, e, c.want)
	}
}

// Ta1: a key that is there has n more, or less, and the others stay.
func TestKeyThatIsThere(t *testing.T) {
	l := list(cell("a", 10), cell("b", -10), cell("c", 10))
	for _, n := range []int{1, -1, 9, 11, -9, -11, 20, -20, 1000, -1000} {
		for i, x := range l {
			want := slices.Clone(l)
			want[i].N += n
			got, e := Add(l, x.Key, n)
			hold(t, fmt.Sprintf("%q %d", x.Key, n), got, e, want)
		}
	}
}

// Ta1: a key whose number becomes 0 is left out, wherever it stands; it may be put there again.
func TestLeftOut(t *testing.T) {
	l := list(cell("a", 1000), cell("b", -1000), cell("c", 1), cell("d", -1))
	for i, x := range l {
		got, e := Add(l, x.Key, -x.N)
		hold(t, "left out, "+x.Key, got, e, slices.Delete(slices.Clone(l), i, i+1))
		if Get(got, x.Key) != 0 {
			t.Errorf("%s has %d", x.Key, Get(got, x.Key))
		}
		got, e = Add(got, x.Key, x.N)
		hold(t, "put again, "+x.Key, got, e, l)
		got, e = Add(list(x), x.Key, -x.N)
		hold(t, "the only one, "+x.Key, got, e, nil)
	}
}

// Ta1: 0 more leaves all as it is: a key that is there, and one that is not.
func TestNoMore(t *testing.T) {
	for i, l := range rightTallies() {
		for _, k := range []string{"a", "k", "0001", "7999", "new", "\x00", "\xff"} {
			got, e := Add(l, k, 0)
			hold(t, fmt.Sprintf("right tally %d, %q", i, k), got, e, l)
		}
	}
}

// Ta1: a number goes up to 2^40 and down to -2^40, and not beyond, whatever stands beside it.
func TestNumbersBounds(t *testing.T) {
	for _, sign := range []int{1, -1} {
		for _, c := range []struct{ from, n int }{
			{most - 1, 1}, {most - 1, 0}, {most, 0}, {most, -1}, {most, -1000}, {most - 1000, 1000}, {most - 999, 999}, {most - 1000, 999},
		} {
			from, n := c.from*sign, c.n*sign
			got, e := Add(list(cell("a", 1), cell("k", from), cell("z", 1)), "k", n)
			hold(t, fmt.Sprintf("%d and %d", from, n), got, e, list(cell("a", 1), cell("k", from+n), cell("z", 1)))
		}
		for _, c := range []struct{ from, n int }{
			{most, 1}, {most, 1000}, {most - 1, 2}, {most - 1, 1000}, {most - 999, 1000}, {most - 998, 999},
		} {
			from, n := c.from*sign, c.n*sign
			got, e := Add(list(cell("a", 1), cell("k", from), cell("z", 1)), "k", n)
			refuse(t, fmt.Sprintf("%d and %d", from, n), got, e, api.ErrFull)
			got, e = Add(list(cell("k", from)), "k", n)
			refuse(t, fmt.Sprintf("%d and %d alone", from, n), got, e, api.ErrFull)
			got, e = Add(list(cell("j", from)), "k", n)
			hold(t, fmt.Sprintf("%d of another key, and %d", from, n), got, e, list(cell("j", from), cell("k", n)))
		}
	}
}

// Ta1: at 4000 keys one more is too many; those that are there take more, and one that is left out gives room.
func TestKeysBounds(t *testing.T) {
	full, first, last := many(4000), manyKey(1), manyKey(7999)
	for _, k := range []string{"0", manyKey(0), manyKey(2), manyKey(4000), manyKey(8000), "k", "\xff"} {
		for _, n := range []int{1, -1, 1000, -1000} {
			got, e := Add(full, k, n)
			refuse(t, fmt.Sprintf("one more, %q %d", k, n), got, e, api.ErrFull)
		}
		got, e := Add(full, k, 0)
		hold(t, fmt.Sprintf("0 of one that is not there, %q", k), got, e, full)
		almost := many(3999)
		at, _ := slices.BinarySearchFunc(almost, k, func(x api.Cell, k string) int { return strings.Compare(x.Key, k) })
		got, e = Add(almost, k, 9)
		hold(t, fmt.Sprintf("the last one that has room, %q", k), got, e, slices.Insert(many(3999), at, cell(k, 9)))
	}
	for _, i := range []int{0, 1, 1999, 2000, 3998, 3999} {
		for _, n := range []int{1000, -1000, 0} {
			want := many(4000)
			want[i].N += n
			got, e := Add(full, full[i].Key, n)
			hold(t, fmt.Sprintf("number %d of 4000, %d", i, n), got, e, want)
		}
	}
	less, e := Add(full, first, -1)
	hold(t, "the first one left out", less, e, full[1:])
	got, e := Add(less, "z", 5)
	hold(t, "another one then", got, e, append(slices.Clone(full[1:]), cell("z", 5)))
	full[3999].N = -1
	less, e = Add(full, last, 1)
	hold(t, "the last one left out", less, e, full[:3999])
}

// Ta1: Get is a key's number; 0, if it is not there, or the tally may not be.
func TestGet(t *testing.T) {
	for i, l := range rightTallies() {
		has := map[string]int{}
		for _, x := range l {
			has[x.Key] = x.N
		}
		keys := append(slices.Collect(maps.Keys(has)), "a", "0", "0000", "0002", "4000", "8000", "aaa", "new", "\x00\x00\x00", "\xff\xff")
		for _, k := range slices.Concat(keys, rightKeys(), wrongKeys()) {
			if got := Get(l, k); got != has[k] {
				t.Fatalf("right tally %d, %q: got %d, want %d", i, k, got, has[k])
			}
		}
	}
	for i, l := range wrongTallies() {
		keys := []string{"", "a", "k", "z", "new"}
		for _, x := range l {
			keys = append(keys, x.Key)
		}
		slices.Sort(keys)
		keys = slices.Compact(keys)
		for j := 0; j < len(keys); j += 1 + len(keys)/50 {
			if got := Get(l, keys[j]); got != 0 {
				t.Errorf("wrong tally %d, %q: got %d", i, keys[j], got)
			}
		}
	}
}

// Ta1: All is the tally; nothing, if it may not be.
func TestAll(t *testing.T) {
	for i, l := range rightTallies() {
		hold(t, fmt.Sprintf("right tally %d", i), All(l), api.OK, l)
	}
	for i, l := range wrongTallies() {
		if got := All(l); len(got) != 0 {
			t.Errorf("wrong tally %d: got %s", i, text(got))
		}
	}
}

// Ta1: Same tells whether tallies are alike, whether they may be or not; no list is as an empty one.
func TestSame(t *testing.T) {
	lists := slices.Concat(rightTallies(), wrongTallies())
	var texts []string
	for _, l := range lists {
		texts = append(texts, text(l))
	}
	for i, a := range lists {
		for j, b := range lists {
			if got, want := Same(a, b), texts[i] == texts[j]; got != want {
				t.Errorf("%d and %d: got %v, want %v", i, j, got, want)
			}
		}
		if c := append([]api.Cell(nil), a...); !Same(a, c) || !Same(c, a) {
			t.Errorf("%d is unlike its copy", i)
		}
	}
	if !Same(nil, nil) || !Same(nil, []api.Cell{}) || !Same([]api.Cell{}, nil) || !Same([]api.Cell{}, []api.Cell{}) {
		t.Error("nothing is unlike nothing")
	}
}

// Ta1: tallies that part in a key, in a number, or in how many there are, are unlike.
func TestSameUnlike(t *testing.T) {
	base := list(cell("a", 1), cell("b", -2), cell("c", 3))
	for i, other := range [][]api.Cell{
		nil, base[:1], base[:2], base[1:], append(slices.Clone(base), cell("d", 4)), append(list(cell("0", 1)), base...), append(slices.Clone(base), api.Cell{}),
		list(cell("b", -2), cell("a", 1), cell("c", 3)),
	} {
		if Same(base, other) || Same(other, base) {
			t.Errorf("other %d is alike", i)
		}
	}
	for i := range base {
		for _, change := range []api.Cell{cell("x", base[i].N), cell(strings.ToUpper(base[i].Key), base[i].N), cell(base[i].Key+"\x00", base[i].N), cell("", base[i].N), cell(base[i].Key, base[i].N+1), cell(base[i].Key, -base[i].N), cell(base[i].Key, 0), cell(base[i].Key, base[i].N+1<<32)} {
			other := slices.Clone(base)
			other[i] = change
			if Same(base, other) || Same(other, base) {
				t.Errorf("alike with %q %d at %d", change.Key, change.N, i)
			}
		}
	}
}

// roomy is a tally in other memory with room behind it, so that a key that is put behind it would be seen.
func roomy(l []api.Cell) []api.Cell { return append(make([]api.Cell, 0, len(l)+4), l...) }

// roomIsClear tells whether nothing was written behind a tally.
func roomIsClear(l []api.Cell) bool {
	return !slices.ContainsFunc(l[len(l):cap(l)], func(x api.Cell) bool { return x != api.Cell{} })
}

// spoil changes all that a tally has, and what stands behind it.
func spoil(l []api.Cell) {
	for i := range l[:cap(l)] {
		l[:cap(l)][i] = cell("spoilt", 444)
	}
}

// R3: no call writes to what it is handed; what it answers shares nothing with it.
func TestNothingShared(t *testing.T) {
	calls := map[string]func([]api.Cell) []api.Cell{"All": All}
	for _, k := range []string{"0", "a", "b", "k", "l", "z", "zz"} {
		for _, n := range []int{0, 5, -5, 1} {
			calls[fmt.Sprintf("Add %s %d", k, n)] = func(l []api.Cell) []api.Cell {
				out, e := Add(l, k, n)
				if e != api.OK {
					t.Errorf("Add %s %d: %d", k, n, e)
				}
				return out
			}
		}
	}
	base := list(cell("a", 5), cell("k", -5), cell("z", 5))
	for _, name := range slices.Sorted(maps.Keys(calls)) {
		for n := range len(base) + 1 {
			l := roomy(base[:n])
			got := calls[name](l)
			if text(l) != text(base[:n]) || !roomIsClear(l) {
				t.Fatalf("%s: wrote to what it was handed: %s", name, text(l))
			}
			want := text(got)
			spoil(l)
			if text(got) != want {
				t.Errorf("%s: what it told has changed: %s, was %s", name, text(got), want)
			}
			l = roomy(base[:n])
			spoil(calls[name](l))
			if text(l) != text(base[:n]) || !roomIsClear(l) {
				t.Errorf("%s: what it was handed has changed by what it told: %s", name, text(l))
			}
		}
	}
}

// R3: a tally that is read, or refused, stays as it is.
func TestReadingsAndRefusals(t *testing.T) {
	for i, base := range slices.Concat(rightTallies(), wrongTallies()) {
		l := roomy(base)
		Check(l)
		Get(l, "k")
		All(l)
		Same(l, base)
		Same(base, l)
		Add(l, "", 1)
		Add(l, "k", 1001)
		Add(l, "k", 1000)
		Add(l, "k", -1000)
		if text(l) != text(base) || !roomIsClear(l) {
			t.Errorf("tally %d has changed", i)
		}
	}
}

// The chapter's example.
func TestExample(t *testing.T) {
	l, e := Add(nil, "a", 3)
	hold(t, "a 3", l, e, list(cell("a", 3)))
	l, e = Add(l, "a", -3)
	hold(t, "a 3, a -3", l, e, nil)
	l, e = Add(nil, "a", -3)
	hold(t, "a -3", l, e, list(cell("a", -3)))
	l, e = Add(l, "a", 3)
	hold(t, "a -3, a 3", l, e, nil)
}

// asPromised is the tally of all that was added, by a sum of each key.
func asPromised(l []api.Cell) []api.Cell {
	sums := map[string]int{}
	for _, x := range l {
		sums[x.Key] += x.N
	}
	var out []api.Cell
	for _, k := range slices.Sorted(maps.Keys(sums)) {
		if sums[k] != 0 {
			out = append(out, cell(k, sums[k]))
		}
	}
	return out
}

// addAll is a tally to which all are added one by one; it may be at each step.
func addAll(t *testing.T, l, more []api.Cell) []api.Cell {
	t.Helper()
	for _, x := range more {
		var e api.Errno
		if l, e = Add(l, x.Key, x.N); e != api.OK || Check(l) != api.OK {
			t.Fatalf("%q %d: %d, %s", x.Key, x.N, e, text(l))
		}
	}
	return l
}

// amounts is n amounts of some keys, of which many are few and near to 0, so that numbers become 0 often.
func amounts(r *rand.Rand, n int, keys []string) []api.Cell {
	var l []api.Cell
	for range n {
		far := []int{2, 3, api.MaxAmount}[r.Intn(3)]
		l = append(l, cell(keys[r.Intn(len(keys))], r.Intn(2*far+1)-far))
	}
	return l
}

// Ta2: in several orders, at each step, each key has all that was added to it.
func TestOrders(t *testing.T) {
	r := rand.New(rand.NewSource(10))
	keys := append(rightKeys(), "a", "b", "c")
	for range 300 {
		l := amounts(r, 1+r.Intn(40), keys[r.Intn(len(keys)-1):])
		want := text(asPromised(l))
		for range 4 {
			r.Shuffle(len(l), func(i, j int) { l[i], l[j] = l[j], l[i] })
			var got []api.Cell
			for i, x := range l {
				got = addAll(t, got, list(x))
				if step := asPromised(l[:i+1]); text(got) != text(step) || !Same(got, step) || Get(got, x.Key) != Get(step, x.Key) {
					t.Fatalf("%s: got %s, want %s", text(l[:i+1]), text(got), text(step))
				}
			}
			if text(got) != want {
				t.Fatalf("%s: got %s, want %s", text(l), text(got), want)
			}
		}
	}
}

// everyOrder calls f with each order of a list.
func everyOrder(done, left []api.Cell, f func([]api.Cell)) {
	if len(left) == 0 {
		f(done)
	}
	for i, x := range left {
		everyOrder(append(slices.Clone(done), x), slices.Delete(slices.Clone(left), i, i+1), f)
	}
}

// Ta2: the same of all orders of few, from nothing and from a tally that has some.
func TestAllOrders(t *testing.T) {
	r := rand.New(rand.NewSource(100))
	for range 60 {
		from := asPromised(amounts(r, r.Intn(5), []string{"a", "b", "c"}))
		l := amounts(r, 5, []string{"a", "b", "c"}[:1+r.Intn(3)])
		want := text(asPromised(slices.Concat(from, l)))
		everyOrder(nil, l, func(order []api.Cell) {
			if got := addAll(t, from, order); text(got) != want {
				t.Fatalf("%s and %s: got %s, want %s", text(from), text(order), text(got), want)
			}
		})
	}
}

// Ta2: near to the bounds too, as long as nothing is refused: of numbers near to 2^40 and -2^40, and of nearly 4000 keys.
func TestOrdersNearBounds(t *testing.T) {
	for _, from := range [][]api.Cell{list(cell("a", most-5), cell("b", 2-most)), append(many(3997), cell("b", 1))} {
		l := list(cell("a", 2), cell("a", 3), cell("a", -1), cell("b", -2), cell("b", 1), cell("c", 5))
		want := text(asPromised(slices.Concat(from, l)))
		everyOrder(nil, l[:4], func(order []api.Cell) {
			for _, all := range [][]api.Cell{append(slices.Clone(order), l[4:]...), append(slices.Clone(l[4:]), order...)} {
				if got := addAll(t, from, all); text(got) != want {
					t.Fatalf("%s: got another tally", text(all))
				}
			}
		})
	}
}
