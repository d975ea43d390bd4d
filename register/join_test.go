package register

import (
	"cmp"
	"fmt"
	"maps"
	"math/rand"
	"slices"
	"strings"
	"testing"

	"huckster/api"
)

// asPromised is the register of notes: of each key the latest one, without the package's functions.
func asPromised(notes ...api.Note) []api.Note {
	of := map[string][]api.Note{}
	for _, n := range notes {
		of[n.Key] = append(of[n.Key], n)
	}
	var out []api.Note
	for _, k := range slices.Sorted(maps.Keys(of)) {
		out = append(out, slices.MaxFunc(of[k], func(a, b api.Note) int {
			return cmp.Or(cmp.Compare(a.At, b.At), cmp.Compare(a.Rep, b.Rep), strings.Compare(a.Word, b.Word))
		}))
	}
	return out
}

// Re2: Join answers ErrArg, and no register, where the first or the second may not be; ahead of there being too many.
func TestJoinWrongArguments(t *testing.T) {
	for i, l := range wrongRegisters() {
		for j, r := range [][]api.Note{nil, {}, list(note("k", 1, 1, "")), list(note("a", 9, 5, "z"), note("b", 9, 5, "z")), others(4000), l} {
			got, e := Join(l, r)
			refuse(t, fmt.Sprintf("wrong register %d and %d", i, j), got, e, api.ErrArg)
			got, e = Join(r, l)
			refuse(t, fmt.Sprintf("%d and wrong register %d", j, i), got, e, api.ErrArg)
		}
	}
}

// Re2: joined with nothing, or with itself, a register is as it was.
func TestJoinWithNothingAndItself(t *testing.T) {
	for i, l := range rightRegisters() {
		for _, none := range [][]api.Note{nil, {}} {
			got, e := Join(l, none)
			hold(t, fmt.Sprintf("right register %d and nothing", i), got, e, l)
			got, e = Join(none, l)
			hold(t, fmt.Sprintf("nothing and right register %d", i), got, e, l)
		}
		got, e := Join(l, l)
		hold(t, fmt.Sprintf("right register %d and itself", i), got, e, l)
		got, e = Join(l, slices.Clone(l))
		hold(t, fmt.Sprintf("right register %d and its copy", i), got, e, l)
	}
	if got, e := Join(nil, nil); e != api.OK || len(got) != 0 {
		t.Errorf("nothing and nothing: got %s, %d", text(got), e)
	}
}

// Re2: registers that share no key: all of both, by their keys.
func TestJoinSharesNone(t *testing.T) {
	a, b, c, d := note("a", 9, 5, "z"), note("b", 1, 1, ""), note("c", 5, 3, "m"), note("d", 9, 1, "")
	for i, l := range [][2][]api.Note{
		{list(a, b), list(c, d)}, {list(a, c), list(b, d)}, {list(a, d), list(b, c)}, {list(a), list(b, c, d)}, {list(b), list(a, c, d)}, {list(c), list(a, b, d)}, {list(d), list(a, b, c)},
	} {
		got, e := Join(l[0], l[1])
		hold(t, fmt.Sprint(i), got, e, list(a, b, c, d))
		got, e = Join(l[1], l[0])
		hold(t, fmt.Sprint(i, " the other way"), got, e, list(a, b, c, d))
	}
	z, e := Join(list(note("a", 1, 1, ""), note("é", 1, 1, "")), list(note("Z", 1, 1, ""), note("aa", 1, 1, ""), note("\xff", 1, 1, "")))
	hold(t, "by their bytes", z, e, list(note("Z", 1, 1, ""), note("a", 1, 1, ""), note("aa", 1, 1, ""), note("é", 1, 1, ""), note("\xff", 1, 1, "")))
}

// Re2: of a key that both have, the later one by At, of one At by Rep, of both by Word, whichever register it is of.
func TestJoinShared(t *testing.T) {
	early := note("k", 5, 3, "m")
	for _, late := range []api.Note{
		note("k", 6, 3, "m"), note("k", 6, 1, ""), note("k", latest, 1, ""),
		note("k", 5, 4, "m"), note("k", 5, 5, ""),
		note("k", 5, 3, "n"), note("k", 5, 3, "m\x00"), note("k", 5, 3, "\x80"), note("k", 5, 3, "\xff"),
	} {
		a, z := note("a", 9, 5, "z"), note("z", 1, 1, "")
		for i, l := range [][2][]api.Note{
			{list(early), list(late)}, {list(a, early), list(late)}, {list(early), list(a, late)}, {list(a, early), list(late, z)}, {list(early, z), list(a, late)}, {list(a, early, z), list(late)}, {list(a, early, z), list(a, late, z)},
		} {
			want := asPromised(slices.Concat(l[0], l[1])...)
			if at := slices.IndexFunc(want, func(n api.Note) bool { return n.Key == "k" }); want[at] != late {
				t.Fatalf("what is asked for is %s", text(want))
			}
			got, e := Join(l[0], l[1])
			hold(t, fmt.Sprintf("%d, %s", i, text(list(late))), got, e, want)
			got, e = Join(l[1], l[0])
			hold(t, fmt.Sprintf("%d the other way, %s", i, text(list(late))), got, e, want)
		}
	}
}

// Re2: of several shared keys the later ones may be of either register.
func TestJoinSharesAll(t *testing.T) {
	l := list(note("a", 5, 1, "v"), note("b", 6, 1, "v"), note("c", 5, 1, "v"), note("d", 5, 2, "v"), note("e", 5, 1, "v"), note("f", 5, 1, "w"), note("g", 5, 1, "v"))
	r := list(note("a", 6, 1, "v"), note("b", 5, 1, "v"), note("c", 5, 2, "v"), note("d", 5, 1, "v"), note("e", 5, 1, "w"), note("f", 5, 1, "v"), note("g", 5, 1, "v"))
	want := list(r[0], l[1], r[2], l[3], r[4], l[5], l[6])
	got, e := Join(l, r)
	hold(t, "all", got, e, want)
	got, e = Join(r, l)
	hold(t, "all, the other way", got, e, want)
	got, e = Join(l[2:], r[:5])
	hold(t, "some", got, e, list(r[0], r[1], r[2], l[3], r[4], l[5], l[6]))
}

// Re2: more than 4000 keys together are too many; 4000 are not, however many of them are shared.
func TestJoinKeysBounds(t *testing.T) {
	full, rest := many(4000), others(4000)
	for _, c := range [][2][]api.Note{
		{full, rest[:1]}, {full, rest[3999:]}, {full, rest}, {full, list(full[0], note("z", 1, 1, ""))}, {full, list(rest[0], full[0])}, {full, append(slices.Clone(full[:3999]), note("8000", 1, 1, ""))},
		{many(2000), rest[:2001]}, {many(2001), rest[:2000]}, {full[:3999], rest[:2]},
	} {
		got, e := Join(c[0], c[1])
		refuse(t, fmt.Sprintf("%d and %d", len(c[0]), len(c[1])), got, e, api.ErrFull)
		got, e = Join(c[1], c[0])
		refuse(t, fmt.Sprintf("%d and %d the other way", len(c[0]), len(c[1])), got, e, api.ErrFull)
	}
	// Some of these are later than those of full, some are not.
	late := many(4000)
	for i := range late {
		late[i].At += 3*(i%3) - 2
	}
	for _, c := range [][2][]api.Note{
		{many(2000), rest[:2000]}, {full[:3999], rest[:1]}, {full[:1], rest[:3999]}, {full, late}, {full, late[:2000]}, {full, late[3999:]}, {full[:2500], full[1500:]}, {full[:2500], late[1500:]},
	} {
		want := asPromised(slices.Concat(c[0], c[1])...)
		if len(want) != 4000 {
			t.Fatalf("%d keys", len(want))
		}
		got, e := Join(c[0], c[1])
		hold(t, fmt.Sprintf("%d and %d", len(c[0]), len(c[1])), got, e, want)
		got, e = Join(c[1], c[0])
		hold(t, fmt.Sprintf("%d and %d the other way", len(c[0]), len(c[1])), got, e, want)
	}
}

// roomy is a register in other memory with room behind it, so that a key that is put behind it would be seen.
func roomy(l []api.Note) []api.Note { return append(make([]api.Note, 0, len(l)+4), l...) }

// roomIsClear tells whether nothing was written behind a register.
func roomIsClear(l []api.Note) bool {
	return !slices.ContainsFunc(l[len(l):cap(l)], func(n api.Note) bool { return n != api.Note{} })
}

// isAsItWas tells whether a register, and the room behind it, is as it was.
func isAsItWas(l, was []api.Note) bool { return slices.Equal(l, was) && roomIsClear(l) }

// spoil changes all that a register has, and what stands behind it.
func spoil(l []api.Note) {
	for i := range l[:cap(l)] {
		l[:cap(l)][i] = note("spoilt", 444, 4, "spoilt")
	}
}

// mustShareNothing calls f with registers of room, and tells whether it wrote to them, or answers what shares memory with them.
func mustShareNothing(t *testing.T, what string, a, b []api.Note, f func(a, b []api.Note) ([]api.Note, api.Errno)) {
	t.Helper()
	l, r := roomy(a), roomy(b)
	got, e := f(l, r)
	if e != api.OK {
		t.Fatalf("%s: %d", what, e)
	}
	if !isAsItWas(l, a) || !isAsItWas(r, b) {
		t.Fatalf("%s: wrote to what it was handed: %s, %s", what, text(l), text(r))
	}
	want := text(got)
	spoil(l)
	spoil(r)
	if text(got) != want {
		t.Errorf("%s: what it told has changed: %s, was %s", what, text(got), want)
	}
	l, r = roomy(a), roomy(b)
	got, _ = f(l, r)
	spoil(got)
	if !isAsItWas(l, a) || !isAsItWas(r, b) {
		t.Errorf("%s: what it was handed has changed by what it told: %s, %s", what, text(l), text(r))
	}
}

// R3: no call writes to what it is handed; what it answers shares nothing with it.
func TestNothingShared(t *testing.T) {
	base := list(note("a", 5, 3, "m"), note("k", 5, 3, "m"), note("z", 5, 3, "m"))
	for n := range len(base) + 1 {
		for _, k := range []string{"0", "a", "b", "k", "l", "z", "zz"} {
			for _, at := range []int{4, 5, 6} {
				x := note(k, at, 3, "m")
				mustShareNothing(t, "Set "+text(list(x)), base[:n], nil, func(l, _ []api.Note) ([]api.Note, api.Errno) { return Set(l, x) })
				for _, r := range [][]api.Note{nil, list(x), asPromised(append(slices.Clone(base), x)...), base[:n]} {
					mustShareNothing(t, "Join "+text(r), base[:n], r, Join)
					mustShareNothing(t, "Join the other way "+text(r), r, base[:n], Join)
				}
			}
		}
	}
}

// R3: a register that is read, or refused, stays as it is.
func TestReadingsAndRefusals(t *testing.T) {
	full, rest := others(4000), many(3)
	for i, base := range slices.Concat(rightRegisters(), wrongRegisters()) {
		l := roomy(base)
		Check(l)
		Get(l, "k")
		Same(l, base)
		Same(base, l)
		Set(l, api.Note{})
		Set(l, note("k", latest, 5, "z"))
		Set(l, note("k", 1, 1, ""))
		Set(l, note("new", 1, 1, ""))
		Join(l, l)
		Join(l, full)
		Join(full, l)
		Join(l, rest)
		Join(rest, l)
		if !isAsItWas(l, base) {
			t.Errorf("register %d has changed", i)
		}
	}
	if text(full) != text(others(4000)) || text(rest) != text(many(3)) {
		t.Error("what was joined has changed")
	}
}

// someNotes is n notes of some keys, which often part in little.
func someNotes(r *rand.Rand, n int, keys []string) []api.Note {
	words := []string{"", "v", "w", "ww", "\xff"}
	var l []api.Note
	for range n {
		l = append(l, note(keys[r.Intn(len(keys))], 1+r.Intn(3), 1+r.Intn(3), words[r.Intn(len(words))]))
	}
	return l
}

// setAll is a register in which notes are set one by one; it may be at each step.
func setAll(t *testing.T, l, notes []api.Note) []api.Note {
	t.Helper()
	for _, n := range notes {
		var e api.Errno
		if l, e = Set(l, n); e != api.OK || Check(l) != api.OK {
			t.Fatalf("%s: %d, %s", text(list(n)), e, text(l))
		}
	}
	return l
}

// Re3: in several orders, and some of them several times, notes make one register, at each step the latest ones of what was set.
func TestOrders(t *testing.T) {
	r := rand.New(rand.NewSource(12))
	keys := append(rightKeys(), "a", "b", "c")
	for range 300 {
		l := someNotes(r, 1+r.Intn(30), keys[r.Intn(len(keys)-1):])
		want := text(asPromised(l...))
		for range 4 {
			for range r.Intn(5) {
				l = append(l, l[r.Intn(len(l))])
			}
			r.Shuffle(len(l), func(i, j int) { l[i], l[j] = l[j], l[i] })
			var got []api.Note
			for i, n := range l {
				got = setAll(t, got, list(n))
				step := asPromised(l[:i+1]...)
				if text(got) != text(step) || !Same(got, step) {
					t.Fatalf("%s: got %s, want %s", text(l[:i+1]), text(got), text(step))
				}
			}
			if text(got) != want {
				t.Fatalf("%s: got %s, want %s", text(l), text(got), want)
			}
		}
	}
}

// everyOrder calls f with each order of a list.
func everyOrder(done, left []api.Note, f func([]api.Note)) {
	if len(left) == 0 {
		f(done)
	}
	for i, n := range left {
		everyOrder(append(slices.Clone(done), n), slices.Delete(slices.Clone(left), i, i+1), f)
	}
}

// Re3: the same of all orders of few, one of them twice, from nothing and from a register that has some.
func TestAllOrders(t *testing.T) {
	r := rand.New(rand.NewSource(120))
	for range 80 {
		from := asPromised(someNotes(r, r.Intn(5), []string{"a", "b", "c"})...)
		l := someNotes(r, 4, []string{"a", "b", "c"}[:1+r.Intn(3)])
		l = append(l, l[0])
		want := text(asPromised(slices.Concat(from, l)...))
		everyOrder(nil, l, func(order []api.Note) {
			if got := setAll(t, from, order); text(got) != want {
				t.Fatalf("%s and %s: got %s, want %s", text(from), text(order), text(got), want)
			}
		})
	}
}

// Re3: near to 4000 keys too, as long as nothing is refused.
func TestOrdersNearBounds(t *testing.T) {
	from := many(3998)
	l := list(note("a", latest, 5, "z"), note("a", latest, 5, "y"), note("b", 1, 1, ""), note("b", 1, 1, "w"), note(from[7].Key, latest, 1, ""))
	want := asPromised(slices.Concat(from, l)...)
	everyOrder(nil, l, func(order []api.Note) {
		if got := setAll(t, from, order); !slices.Equal(got, want) {
			t.Fatalf("%s: got another register", text(order))
		}
	})
}

// Re2, Re3: joined registers are as one in which all notes of both are set, whichever is the first, and in whichever order several are joined.
func TestJoinsAndOrders(t *testing.T) {
	r := rand.New(rand.NewSource(1200))
	join := func(a, b []api.Note) []api.Note {
		t.Helper()
		out, e := Join(a, b)
		if e != api.OK || Check(out) != api.OK {
			t.Fatalf("%s and %s: %s, %d", text(a), text(b), text(out), e)
		}
		return out
	}
	keys := append(rightKeys(), "a", "b", "c")
	for range 2000 {
		some := keys[r.Intn(len(keys)-1):]
		x, y, z := someNotes(r, r.Intn(8), some), someNotes(r, r.Intn(8), some), someNotes(r, r.Intn(8), some)
		a, b, c := setAll(t, nil, x), setAll(t, nil, y), setAll(t, nil, z)
		want := text(asPromised(slices.Concat(x, y)...))
		for i, got := range [][]api.Note{join(a, b), join(b, a), setAll(t, a, b), setAll(t, b, a), setAll(t, a, y), join(join(a, b), a)} {
			if text(got) != want {
				t.Fatalf("%d: %s and %s: got %s, want %s", i, text(a), text(b), text(got), want)
			}
		}
		want = text(asPromised(slices.Concat(x, y, z)...))
		for i, got := range [][]api.Note{join(join(a, b), c), join(a, join(b, c)), join(c, join(b, a)), join(join(a, c), join(b, c))} {
			if text(got) != want {
				t.Fatalf("%d: three: got %s, want %s", i, text(got), want)
			}
		}
	}
}
