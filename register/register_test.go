package register

import (
	"fmt"
	"math"
	"slices"
	"strings"
	"testing"

	"huckster/api"
)

// latest is the greatest At that may be.
const latest = 1 << 40

// note is a note in short.
func note(key string, at, rep int, word string) api.Note {
	return api.Note{Key: key, At: at, Rep: rep, Word: word}
}

// list is a register in short.
func list(l ...api.Note) []api.Note { return l }

func manyKey(i int) string { return fmt.Sprintf("%04d", i) }

// many is a register of n keys of 4 bytes each, every second number, so that there are keys ahead of, between and behind them.
func many(n int) []api.Note {
	var l []api.Note
	for i := range n {
		l = append(l, note(manyKey(2*i+1), 10+i, 1+i%api.MaxReps, fmt.Sprint("word ", i)))
	}
	return l
}

// others is a register as many is, but that its keys stand ahead of and between those.
func others(n int) []api.Note {
	l := many(n)
	for i := range l {
		l[i].Key = manyKey(2 * i)
	}
	return l
}

// text is all that a register has, as a text.
func text(l []api.Note) string {
	var b strings.Builder
	for _, n := range l {
		fmt.Fprintf(&b, "%q at %d by %d %q;", n.Key, n.At, n.Rep, n.Word)
	}
	return b.String()
}

// hold tells whether an answer is the register that is asked for, without the package's own functions.
func hold(t *testing.T, what string, got []api.Note, e api.Errno, want []api.Note) {
	t.Helper()
	if e != api.OK || !slices.Equal(got, want) {
		t.Errorf("%s: got %s, %d, want %s", what, text(got), e, text(want))
	}
}

// refuse tells whether an answer is an error, and nothing beside it.
func refuse(t *testing.T, what string, got []api.Note, e, want api.Errno) {
	t.Helper()
	if e != want || len(got) != 0 {
		t.Errorf("%s: got %s, %d, want nothing, %d", what, text(got), e, want)
	}
}

// rightKeys are keys that may be.
func rightKeys() []string {
	return []string{"k", "\x00", "\xff", "\xff\xfe\x80", "kk", "é", strings.Repeat("k", 31), strings.Repeat("k", 32), strings.Repeat("\x80", 32), strings.Repeat("é", 16)}
}

// wrongKeys are keys that may not be.
func wrongKeys() []string {
	return []string{"", strings.Repeat("k", 33), strings.Repeat("\x00", 33), strings.Repeat("\xff", 33), strings.Repeat("é", 17), strings.Repeat("k", 5000)}
}

// rightAts are times at which a note may be set.
func rightAts() []int {
	return []int{1, 2, 3, 1000, 1 << 20, 1<<31 - 1, 1 << 31, 1 << 32, 1<<32 + 1, latest - 1, latest}
}

// wrongAts are times at which no note may be set.
func wrongAts() []int {
	return []int{0, -1, latest + 1, 2 * latest, -latest, -1 << 32, math.MaxInt, math.MinInt, math.MinInt + 1}
}

// rightReps are replicas that may be: all of them.
func rightReps() []int { return []int{1, 2, 3, 4, 5} }

// wrongReps are replicas that may not be.
func wrongReps() []int {
	return []int{0, 6, -1, -5, 7, 1 << 32, 1<<32 + 1, -1 << 32, math.MaxInt, math.MinInt, math.MinInt + 1}
}

// rightWords are words that may be.
func rightWords() []string {
	return []string{"", "w", "\x00", "\xff", "\xff\xfe\x80", "é", strings.Repeat("w", 33), strings.Repeat("w", 63), strings.Repeat("w", 64), strings.Repeat("\x80", 64), strings.Repeat("\x00", 64), strings.Repeat("é", 32)}
}

// wrongWords are words that may not be.
func wrongWords() []string {
	return []string{strings.Repeat("w", 65), strings.Repeat("\x00", 65), strings.Repeat("\x80", 65), strings.Repeat("é", 33), strings.Repeat("w", 5000)}
}

// rightNotes are notes that may be, no two of them alike.
func rightNotes() []api.Note {
	var l []api.Note
	for _, k := range rightKeys() {
		l = append(l, note(k, 70, 2, "x"))
	}
	for _, at := range rightAts() {
		l = append(l, note("k", at, 2, "y"))
	}
	for _, rep := range rightReps() {
		l = append(l, note("k", 71, rep, "y"))
	}
	for _, w := range rightWords() {
		l = append(l, note("k", 72, 2, w))
	}
	return append(l, note("k", 1, 1, ""), note("k", latest, 5, strings.Repeat("\xff", 64)), note(strings.Repeat("\xff", 32), latest, 5, strings.Repeat("\xff", 64)))
}

// wrongNotes are notes that may not be, each for one reason alone, but for the zero one.
func wrongNotes() []api.Note {
	l := list(api.Note{})
	for _, k := range wrongKeys() {
		l = append(l, note(k, 1, 1, "w"), note(k, 9, 5, ""))
	}
	for _, at := range wrongAts() {
		l = append(l, note("k", at, 1, "w"), note("0001", at, 1, "w"))
	}
	for _, rep := range wrongReps() {
		l = append(l, note("k", 1, rep, "w"), note("0001", 50, rep, "w"))
	}
	for _, w := range wrongWords() {
		l = append(l, note("k", 1, 1, w), note("0001", 50, 1, w))
	}
	return l
}

// rightRegisters are registers that may be, no two of them alike but the first two.
func rightRegisters() [][]api.Note {
	a, b := note("a", 1, 1, "v"), note("b", 1, 1, "v")
	l := [][]api.Note{
		nil, {}, many(1), many(2), many(3), many(3999), many(4000),
		list(a, b), list(note("a", 2, 1, "v"), b), list(note("a", 1, 2, "v"), b), list(note("a", 1, 1, "w"), b), list(note("a", 1, 1, ""), b),
		list(a, note("aa", 1, 1, "v"), b), list(note("Z", 1, 1, "v"), a), list(a, note("a\x00", 1, 1, "v")),
		list(note("\x00", 9, 1, ""), note("\x00\x00", 8, 2, "z"), note("\x7f", 7, 3, "y"), note("\x80", 6, 4, "x"), note("\xff", 5, 5, "w")),
		list(note(strings.Repeat("k", 31), 1, 1, ""), note(strings.Repeat("k", 32), 1, 1, "")),
		list(note("a", latest, 5, strings.Repeat("w", 64)), note("b", 1, 1, ""), note("c", latest, 5, strings.Repeat("w", 64))),
	}
	for _, n := range rightNotes() {
		l = append(l, list(n))
	}
	return l
}

// wrongRegisters are registers that may not be, each for one reason alone, but for those of zero values.
func wrongRegisters() [][]api.Note {
	a, b, c := note("a", 1, 1, "v"), note("b", 2, 2, "w"), note("c", 3, 3, "x")
	l := [][]api.Note{
		// Too many keys.
		many(4001), many(4999),
		// Keys that are the same, or do not rise.
		list(a, a), list(a, note("a", 2, 1, "v")), list(note("a", 2, 1, "v"), a), list(a, note("a", 1, 2, "v")), list(a, note("a", 1, 1, "w")), list(b, a),
		list(a, c, b), list(b, a, c), list(a, b, b), list(a, b, a), list(c, b, a),
		list(note("aa", 1, 1, "v"), a), list(a, note("Z", 1, 1, "v")), list(note("\x80", 1, 1, "v"), note("\x7f", 1, 1, "v")), list(note("\xff", 1, 1, "v"), note("é", 1, 1, "v")),
		// Keys that rise, one of which is of no bytes, or too long.
		list(note("", 1, 1, "v"), a), list(a, note(strings.Repeat("k", 33), 1, 1, "v")), list(a, note(strings.Repeat("k", 33), 1, 1, "v"), note("z", 1, 1, "v")),
		// A zero value behind another one.
		list(a, api.Note{}),
	}
	for _, n := range wrongNotes() {
		l = append(l, list(n), list(n, note("zz", 1, 1, "v")))
		if n.Key == "k" {
			l = append(l, list(a, n), list(a, n, note("z", 1, 1, "v")))
		}
	}
	return l
}

// someKeys are keys of a register, and some that may be there or not; of many keys some alone.
func someKeys(l []api.Note) []string {
	keys := []string{"", "a", "k", "z", "new", "0", "0000", "0001", "0002", "4000", "7999", "8000", "\x00\x00\x00", "\xff\xff", strings.Repeat("k", 33)}
	for i := 0; i < len(l); i += 1 + len(l)/20 {
		keys = append(keys, l[i].Key)
	}
	slices.Sort(keys)
	return slices.Compact(keys)
}

// Re1: Check tells whether a register may be.
func TestCheck(t *testing.T) {
	for i, l := range rightRegisters() {
		if e := Check(l); e != api.OK {
			t.Errorf("right register %d: got %d", i, e)
		}
	}
	for i, l := range wrongRegisters() {
		if e := Check(l); e != api.ErrArg {
			t.Errorf("wrong register %d, %s: got %d", i, text(l[:min(len(l), 5)]), e)
		}
	}
	// The last one of 4000 is looked at too.
	for _, n := range append(wrongNotes(), note("0000", 1, 1, ""), note(manyKey(7997), 1, 1, "")) {
		if n.Key == "k" {
			n.Key = "9999"
		}
		l := many(4000)
		l[3999] = n
		if e := Check(l); e != api.ErrArg {
			t.Errorf("the last one is %s: got %d", text(list(n)), e)
		}
	}
}

// Re1: Set answers ErrArg, and no register, where the register may not be, or the note may not.
func TestSetWrongArguments(t *testing.T) {
	for i, l := range wrongRegisters() {
		for _, n := range slices.Concat(list(note("a", 9, 1, "n"), note("k", 9, 1, "n"), note("n", 9, 1, "n"), note("0", 1, 1, "")), wrongNotes()[:8]) {
			got, e := Set(l, n)
			refuse(t, fmt.Sprintf("wrong register %d, %s", i, text(list(n))), got, e, api.ErrArg)
		}
	}
	// At 4000 keys one more is too many as well: what may not be is told first. A note that is not later is looked at too.
	for i, l := range [][]api.Note{nil, {}, list(note("k", 1, 1, "")), list(note("k", latest, 5, "z")), many(3999), many(4000)} {
		for _, n := range wrongNotes() {
			got, e := Set(l, n)
			refuse(t, fmt.Sprintf("register %d, %s", i, text(list(n))), got, e, api.ErrArg)
		}
	}
}

// Re1: each note that may be is its key's, if there is none.
func TestSetRightNotes(t *testing.T) {
	for _, n := range rightNotes() {
		for _, l := range [][]api.Note{nil, {}} {
			got, e := Set(l, n)
			hold(t, text(list(n)), got, e, list(n))
		}
		got, e := Set(list(n), n)
		hold(t, "twice, "+text(list(n)), got, e, list(n))
	}
}

// Re1: a key that is not there is put where its bytes stand: ahead of all, between and behind all.
func TestSetNewKey(t *testing.T) {
	b, d := note("b", 7, 3, "m"), note("d", 8, 3, "n")
	// The new one is later than the others, and earlier than them: other keys' notes count for nothing.
	for _, x := range []api.Note{note("", 9, 5, "z"), note("", 1, 1, ""), note("", 7, 3, "m")} {
		for _, k := range []string{"a", "\x00", "B", "a\xff"} {
			x.Key = k
			got, e := Set(list(b, d), x)
			hold(t, "ahead of all, "+text(list(x)), got, e, list(x, b, d))
		}
		for _, k := range []string{"c", "bb", "b\x00", "c\xff"} {
			x.Key = k
			got, e := Set(list(b, d), x)
			hold(t, "between, "+text(list(x)), got, e, list(b, x, d))
		}
		for _, k := range []string{"e", "dd", "d\x00", "\x80", "\xff"} {
			x.Key = k
			got, e := Set(list(b, d), x)
			hold(t, "behind all, "+text(list(x)), got, e, list(b, d, x))
		}
	}
}

// Re1: a note of a key that is there holds, if it is later: by its At, of one At by its Rep, of both by its Word; else the other one stays.
func TestSetKeyThatIsThere(t *testing.T) {
	a, k, z := note("a", 5, 3, "m"), note("k", 5, 3, "m"), note("z", 5, 3, "m")
	for _, c := range []struct {
		at, rep int
		word    string
		later   bool
	}{
		{6, 3, "m", true}, {6, 1, "", true}, {latest, 1, "", true}, {4, 3, "m", false}, {4, 5, "z", false}, {1, 5, "z", false},
		{5, 4, "m", true}, {5, 5, "", true}, {5, 2, "m", false}, {5, 1, "z", false},
		{5, 3, "n", true}, {5, 3, "mm", true}, {5, 3, "m\x00", true}, {5, 3, "\x80", true}, {5, 3, "\xff", true}, {5, 3, "é", true},
		{5, 3, "l", false}, {5, 3, "lz", false}, {5, 3, "", false}, {5, 3, "M", false}, {5, 3, "\x00", false},
		{5, 3, "m", false},
	} {
		for i := range 3 {
			n := note([]string{"a", "k", "z"}[i], c.at, c.rep, c.word)
			want := list(a, k, z)
			if c.later {
				want[i] = n
			}
			got, e := Set(list(a, k, z), n)
			hold(t, text(list(n)), got, e, want)
			got, e = Set(list(want[i]), n)
			hold(t, "again, "+text(list(n)), got, e, list(want[i]))
		}
	}
}

// Re1: at 4000 keys one more is too many, early or late; those that are there take a later note, and keep theirs against another one.
func TestSetKeysBounds(t *testing.T) {
	full := many(4000)
	for _, k := range []string{"0", manyKey(0), manyKey(2), manyKey(4000), manyKey(8000), "k", "\xff"} {
		for _, n := range []api.Note{note(k, 1, 1, ""), note(k, latest, 5, "z")} {
			got, e := Set(full, n)
			refuse(t, "one more, "+text(list(n)), got, e, api.ErrFull)
			almost := many(3999)
			at := 0
			for at < len(almost) && almost[at].Key < k {
				at++
			}
			got, e = Set(almost, n)
			hold(t, "the last one that has room, "+text(list(n)), got, e, slices.Insert(almost, at, n))
		}
	}
	for _, i := range []int{0, 1, 1999, 2000, 3998, 3999} {
		x := full[i]
		for _, n := range []api.Note{note(x.Key, x.At+1, 1, ""), note(x.Key, x.At, x.Rep, x.Word+"x"), note(x.Key, latest, 5, "")} {
			want := many(4000)
			want[i] = n
			got, e := Set(full, n)
			hold(t, fmt.Sprintf("number %d of 4000, later", i), got, e, want)
		}
		for _, n := range []api.Note{x, note(x.Key, x.At-1, 5, "z"), note(x.Key, x.At, x.Rep, ""), note(x.Key, 1, 1, "")} {
			got, e := Set(full, n)
			hold(t, fmt.Sprintf("number %d of 4000, not later", i), got, e, full)
		}
	}
}

// Re1: Get is a key's note, and true; the zero one, and false, of a key that is not there, or may not be.
func TestGet(t *testing.T) {
	for i, l := range rightRegisters() {
		has := map[string]api.Note{}
		for _, n := range l {
			has[n.Key] = n
		}
		for _, k := range slices.Concat(someKeys(l), rightKeys(), wrongKeys()) {
			want, there := has[k]
			if got, ok := Get(l, k); got != want || ok != there {
				t.Fatalf("right register %d, %q: got %s, %v, want %s, %v", i, k, text(list(got)), ok, text(list(want)), there)
			}
		}
	}
	full := many(4000)
	for _, n := range full {
		if got, ok := Get(full, n.Key); got != n || !ok {
			t.Fatalf("of 4000, %q: got %s, %v", n.Key, text(list(got)), ok)
		}
	}
}

// Re1: Get of a register that may not be is the zero note, and false, of all keys.
func TestGetOfWrong(t *testing.T) {
	for i, l := range wrongRegisters() {
		for _, k := range someKeys(l) {
			if got, ok := Get(l, k); got != (api.Note{}) || ok {
				t.Errorf("wrong register %d, %q: got %s, %v", i, k, text(list(got)), ok)
			}
		}
	}
}

// rising is notes, each of them later than all ahead of it; many of them may not be.
func rising() []api.Note {
	words := []string{"", "\x00", "\x00\x00", "A", "Az", "a", "a\x00", "aa", "b", strings.Repeat("b", 64), strings.Repeat("b", 65), "\x7f", "\x80", "é", "\xff", "\xff\x00", "\xff\xff"}
	var l []api.Note
	for _, at := range []int{math.MinInt, -1 << 32, -1, 0, 1, 2, 3, 1 << 31, 1 << 32, 1<<32 + 1, latest, latest + 1, math.MaxInt} {
		for _, rep := range []int{math.MinInt, -1, 0, 1, 2, 5, 6, 1<<32 + 1, math.MaxInt} {
			for _, w := range words {
				l = append(l, note("", at, rep, w))
			}
		}
	}
	return l
}

// Re1: Later tells whether the first is later than the second, by At, of one At by Rep, of both by Word: of notes that may not be, too. Keys are not looked at.
func TestLater(t *testing.T) {
	l := rising()
	keys := []string{"", "a", "b", "\xff", strings.Repeat("k", 33)}
	for i, a := range l {
		for j, b := range l {
			a.Key, b.Key = keys[(i+j)%5], keys[(i+3*j)%5]
			if got := Later(a, b); got != (i > j) {
				t.Fatalf("%s than %s: got %v", text(list(a)), text(list(b)), got)
			}
		}
	}
	for _, n := range slices.Concat(rightNotes(), wrongNotes()) {
		for _, k := range keys {
			other := n
			other.Key = k
			if Later(n, other) || Later(other, n) || Later(n, n) {
				t.Errorf("%s, with key %q: one is later", text(list(n)), k)
			}
		}
	}
	if Later(api.Note{}, api.Note{}) || !Later(note("", 0, 0, "\x00"), api.Note{}) {
		t.Error("of zero values")
	}
}

// Same tells whether registers are alike, whether they may be or not; no list is as an empty one.
func TestSame(t *testing.T) {
	lists := slices.Concat(rightRegisters(), wrongRegisters())
	var texts []string
	for _, l := range lists {
		texts = append(texts, text(l))
	}
	for i, a := range lists {
		for j, b := range lists {
			if got, want := Same(a, b), texts[i] == texts[j]; got != want {
				t.Errorf("%d and %d: got %v, want %v", i, j, got, want)
			}
		}
		if c := append([]api.Note(nil), a...); !Same(a, c) || !Same(c, a) {
			t.Errorf("%d is unlike its copy", i)
		}
	}
	if !Same(nil, nil) || !Same(nil, []api.Note{}) || !Same([]api.Note{}, nil) || !Same([]api.Note{}, []api.Note{}) {
		t.Error("nothing is unlike nothing")
	}
}

// Re2: registers that part in a key, in an At, in a Rep, in a Word, or in how many there are, are unlike.
func TestSameUnlike(t *testing.T) {
	base := list(note("a", 1, 1, "v"), note("b", 2, 5, ""), note("c", 3, 2, "x"))
	for i, other := range [][]api.Note{
		nil, base[:1], base[:2], base[1:], append(slices.Clone(base), note("d", 1, 1, "v")), append(list(note("0", 1, 1, "v")), base...), append(slices.Clone(base), api.Note{}),
		list(base[1], base[0], base[2]), list(base[0], base[1], base[2], base[2]),
	} {
		if Same(base, other) || Same(other, base) {
			t.Errorf("other %d is alike", i)
		}
	}
	for i, n := range base {
		for _, change := range []api.Note{
			note("x", n.At, n.Rep, n.Word), note(strings.ToUpper(n.Key), n.At, n.Rep, n.Word), note(n.Key+"\x00", n.At, n.Rep, n.Word), note("", n.At, n.Rep, n.Word),
			note(n.Key, n.At+1, n.Rep, n.Word), note(n.Key, -n.At, n.Rep, n.Word), note(n.Key, 0, n.Rep, n.Word), note(n.Key, n.At+1<<32, n.Rep, n.Word),
			note(n.Key, n.At, n.Rep+1, n.Word), note(n.Key, n.At, -n.Rep, n.Word), note(n.Key, n.At, 0, n.Word), note(n.Key, n.At, n.Rep+1<<32, n.Word),
			note(n.Key, n.At, n.Rep, n.Word+"\x00"), note(n.Key, n.At, n.Rep, n.Word+"x"), note(n.Key, n.At, n.Rep, "other"),
		} {
			other := slices.Clone(base)
			other[i] = change
			if Same(base, other) || Same(other, base) {
				t.Errorf("alike with %s at %d", text(list(change)), i)
			}
		}
	}
}

// The chapter's example.
func TestExample(t *testing.T) {
	one, two := note("k", 3, 1, "z"), note("k", 3, 2, "y")
	for _, l := range [][]api.Note{list(one, two), list(two, one)} {
		got, e := Set(nil, l[0])
		hold(t, "the first", got, e, l[:1])
		got, e = Set(got, l[1])
		hold(t, "both", got, e, list(two))
		if n, there := Get(got, "k"); n != two || !there {
			t.Errorf("got %s, %v", text(list(n)), there)
		}
	}
}
