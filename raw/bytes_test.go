package raw

import (
	"bytes"
	"fmt"
	"strings"
	"testing"

	"huckster/api"
)

// num is a number's bytes, without layer 2's functions.
func num(n int) string {
	var digits string
	for ; n > 0; n >>= 8 {
		digits = string([]byte{byte(n)}) + digits
	}
	return string([]byte{byte(len(digits))}) + digits
}

// zigzag is the bytes of a number that may be below 0.
func zigzag(n int) string {
	if n >= 0 {
		return num(2 * n)
	}
	return num(-2*n - 1)
}

// packed is a pack's bytes, without layer 2's functions.
func packed(texts ...string) string {
	b := num(len(texts))
	for _, t := range texts {
		b += num(len(t)) + t
	}
	return b
}

// packOf is the pack of all keys of a thing.
func packOf[T any](l []T, of func(T) string) string {
	var keys []string
	for _, x := range l {
		keys = append(keys, of(x))
	}
	return packed(keys...)
}

// wantBytes is what Ra2 says that raw's bytes are: a key without Live is not plain raw's.
func wantBytes(w api.Raw) string {
	var things []string
	for _, s := range w.Sets {
		things = append(things, packOf(withoutDead(s), func(x api.Entry) string {
			texts := []string{x.Key}
			for _, d := range x.Live {
				texts = append(texts, num(d.Rep), num(d.Seq))
			}
			return packed(texts...)
		}))
	}
	for _, l := range w.Tallies {
		things = append(things, packOf(l, func(x api.Cell) string { return packed(x.Key, zigzag(x.N)) }))
	}
	for _, l := range w.Accounts {
		things = append(things, packOf(l, func(x api.Account) string {
			return packed(x.Key, zigzag(x.Have[0]), zigzag(x.Have[1]), zigzag(x.Have[2]), zigzag(x.Have[3]), zigzag(x.Have[4]))
		}))
	}
	for _, l := range w.Regs {
		things = append(things, packOf(l, func(x api.Note) string { return packed(x.Key, num(x.At), num(x.Rep), x.Word) }))
	}
	return packed(things...)
}

// withoutDead is a set, plain, without the package's functions.
func withoutDead(s []api.Entry) []api.Entry {
	var l []api.Entry
	for _, x := range s {
		if len(x.Live) > 0 {
			l = append(l, live(x.Key, x.Live...))
		}
	}
	return l
}

// plainOf is raw, plain, without the package's functions.
func plainOf(w api.Raw) api.Raw {
	sets := make([][]api.Entry, len(w.Sets))
	for i, s := range w.Sets {
		sets[i] = withoutDead(s)
	}
	return api.Raw{Sets: sets, Tallies: w.Tallies, Accounts: w.Accounts, Regs: w.Regs}
}

// The chapter's example: one set, one add: its bytes have the key; byte by byte.
func TestExample(t *testing.T) {
	k := api.Kinds{Sets: []bool{false}}
	w, e := New(k)
	hold(t, "New", w, e, nothing(k))
	w, e = Apply(k, w, deed(1, nil, add(0, "k")))
	hold(t, "Apply", w, e, api.Raw{Sets: [][]api.Entry{{live("k", dot(1, 1))}}})
	b, e := Bytes(k, w)
	want := "\x01\x01" + "\x01\x11" + "\x01\x01" + "\x01\x0d" + "\x01\x03" + "\x01\x01k" + "\x01\x02\x01\x01" + "\x01\x02\x01\x01"
	if e != api.OK || string(b) != want || !bytes.Contains(b, []byte("k")) {
		t.Errorf("Bytes: got %x, %d, want %x", b, e, want)
	}
	b, e = Bytes(k, nothing(k))
	if e != api.OK || string(b) != "\x01\x01\x01\x01\x00" || bytes.Contains(b, []byte("k")) {
		t.Errorf("Bytes of nothing: got %x, %d", b, e)
	}
}

// Ra2: bytes, byte by byte, of numbers below 0, of accounts and of notes.
func TestBytesByHand(t *testing.T) {
	k := api.Kinds{Counts: []api.Floor{{}, floor(-9)}, Regs: 1}
	w := nothing(k)
	w.Tallies[0] = []api.Cell{{Key: "a", N: -1}, {Key: "b", N: 1}, {Key: "c", N: -200}}
	w.Accounts[1] = []api.Account{account("a", -3, 0, 0, 0, 200)}
	w.Regs[0] = []api.Note{note("a", 258, 2, "xy"), note("b", 1, 1, "")}
	cells := "\x01\x03" +
		"\x01\x09" + "\x01\x02" + "\x01\x01a" + "\x01\x02\x01\x01" +
		"\x01\x09" + "\x01\x02" + "\x01\x01b" + "\x01\x02\x01\x02" +
		"\x01\x0a" + "\x01\x02" + "\x01\x01c" + "\x01\x03\x02\x01\x8f"
	accounts := "\x01\x01" +
		"\x01\x17" + "\x01\x06" + "\x01\x01a" + "\x01\x02\x01\x05" + "\x01\x01\x00" + "\x01\x01\x00" + "\x01\x01\x00" + "\x01\x03\x02\x01\x90"
	notes := "\x01\x02" +
		"\x01\x12" + "\x01\x04" + "\x01\x01a" + "\x01\x03\x02\x01\x02" + "\x01\x02\x01\x02" + "\x01\x02xy" +
		"\x01\x0e" + "\x01\x04" + "\x01\x01b" + "\x01\x02\x01\x01" + "\x01\x02\x01\x01" + "\x00"
	text := func(s string) string { return "\x01" + string([]byte{byte(len(s))}) + s }
	want := "\x01\x05" + text(cells) + "\x01\x01\x00" + "\x01\x01\x00" + text(accounts) + text(notes)
	if b, e := Bytes(k, w); e != api.OK || string(b) != want {
		t.Errorf("got %x, %d, want %x", b, e, want)
	}
	if got := wantBytes(w); got != want {
		t.Errorf("the test's own bytes are %x, want %x", got, want)
	}
}

// Ra2: Plain and Bytes of all that may be; ErrArg, and nothing beside it, of what may not.
func TestPlainAndBytes(t *testing.T) {
	for i, x := range rightRaws() {
		got, e := Plain(x.k, x.w)
		hold(t, fmt.Sprintf("Plain of right raw %d", i), got, e, plainOf(x.w))
		if Check(x.k, got) != api.OK {
			t.Errorf("Plain of right raw %d may not be", i)
		}
		again, e := Plain(x.k, got)
		hold(t, fmt.Sprintf("Plain twice of right raw %d", i), again, e, got)
		b, e := Bytes(x.k, x.w)
		if e != api.OK || string(b) != wantBytes(x.w) {
			t.Errorf("Bytes of right raw %d: got %d bytes, %d", i, len(b), e)
		}
		if c, e := Bytes(x.k, got); e != api.OK || !bytes.Equal(b, c) {
			t.Errorf("Bytes of Plain of right raw %d: got %d bytes, %d", i, len(c), e)
		}
	}
	for i, x := range wrongRaws() {
		got, e := Plain(x.k, x.w)
		refuse(t, fmt.Sprintf("Plain of wrong raw %d", i), got, e, api.ErrArg)
		if b, e := Bytes(x.k, x.w); e != api.ErrArg || len(b) != 0 {
			t.Errorf("Bytes of wrong raw %d: got %x, %d", i, b[:min(len(b), 99)], e)
		}
	}
}

// Ra2: Plain and Bytes of sets with drops alone, with drops and adds, and of nothing.
func TestPlainOfDrops(t *testing.T) {
	k := api.Kinds{Sets: []bool{true, false, true}}
	one, two := list(dot(1, 1)), list(dot(1, 2), dot(2, 1))
	keep := []api.Entry{live("a", one...), live("b", two...)}
	for i, c := range []struct{ first, last, wantFirst, wantLast []api.Entry }{
		{nil, nil, nil, nil},
		{[]api.Entry{dead("a", one...)}, []api.Entry{dead("a", two...), dead("b", one...)}, nil, nil},
		{[]api.Entry{both("a", two, one)}, []api.Entry{live("b", one...)}, []api.Entry{live("a", two...)}, []api.Entry{live("b", one...)}},
		{[]api.Entry{dead("a", one...), both("b", two, one), dead("c", two...), live("d", one...)}, nil, []api.Entry{live("b", two...), live("d", one...)}, nil},
	} {
		w := api.Raw{Sets: [][]api.Entry{c.first, keep, c.last}}
		want := api.Raw{Sets: [][]api.Entry{c.wantFirst, keep, c.wantLast}}
		got, e := Plain(k, w)
		hold(t, fmt.Sprint(i), got, e, want)
		b, e := Bytes(k, w)
		plain, f := Bytes(k, want)
		if e != api.OK || f != api.OK || !bytes.Equal(b, plain) || string(b) != wantBytes(want) {
			t.Errorf("%d: got %x, %d, want %x", i, b, e, plain)
		}
	}
}

// Ra2: bytes of raws that part in one thing alone part; in Dead alone they are the same.
func TestBytesPart(t *testing.T) {
	base, e := Bytes(mixed(), some())
	if e != api.OK {
		t.Fatal(e)
	}
	seen := map[string]int{string(base): -1}
	for i, w := range parted() {
		b, e := Bytes(mixed(), w)
		if was, there := seen[string(b)]; e != api.OK || there {
			t.Errorf("parted %d: %d, bytes as of %d", i, e, was)
		}
		seen[string(b)] = i
	}
	for i, w := range partedByDead() {
		if b, e := Bytes(mixed(), w); e != api.OK || !bytes.Equal(b, base) {
			t.Errorf("parted by Dead %d: got %d, other bytes", i, e)
		}
	}
	// A thing's place tells which one it is: one key in another thing makes other bytes.
	k := greatest()
	seen = map[string]int{}
	for i, x := range []api.Effect{
		add(0, "k"), add(1, "k"), add(2, "k"), add(3, "k"), add(4, "k"), add(5, "k"), up(0, "k", 1), up(1, "k", 1), up(2, "k", 1), up(3, "k", 1),
		down(0, "k", 1), down(1, "k", 1), down(2, "k", 1), down(3, "k", 1), setTo(0, "k", ""), setTo(1, "k", ""), setTo(2, "k", ""), move(0, "k", 1, 2), move(2, "k", 1, 2),
	} {
		w, e := Apply(k, nothing(k), deed(1, nil, x))
		b, f := Bytes(k, w)
		if was, there := seen[string(b)]; e != api.OK || f != api.OK || there {
			t.Errorf("%v: %d, %d, bytes as of %d", x, e, f, was)
		}
		seen[string(b)] = i
	}
}

// Ra2: numbers at their bounds, and texts of all lengths, as bytes.
func TestBytesBounds(t *testing.T) {
	k := mixed()
	for _, n := range []int{1, -1, 63, 64, 127, 128, -127, -128, -129, 255, -256, 1000, -1000, 32767, -32768, 1 << 31, -1 << 31, far - 1, 1 - far, far, -far} {
		w := nothing(k)
		w.Tallies[0] = []api.Cell{{Key: "k", N: n}}
		w.Accounts[1] = []api.Account{account("k", n, 0, -n), account("l", 0, 0, 0, 0, n)}
		if b, e := Bytes(k, w); e != api.OK || string(b) != wantBytes(w) {
			t.Errorf("%d: got %x, %d, want %x", n, b, e, wantBytes(w))
		}
	}
	for _, n := range []int{1, 2, 31, 32} {
		w := nothing(k)
		key, word := strings.Repeat("\xff", n), strings.Repeat("\x00", 2*n)
		w.Sets[0] = []api.Entry{live(key, dot(1, 1), dot(5, most))}
		w.Sets[1] = []api.Entry{both(key, list(dot(2, 255), dot(2, 256)), list(dot(1, 1)))}
		w.Regs[1] = []api.Note{note(key, far, 5, word)}
		if b, e := Bytes(k, w); e != api.OK || string(b) != wantBytes(w) {
			t.Errorf("%d: got %x, %d, want %x", n, b, e, wantBytes(w))
		}
	}
}

// wrongClocks are clocks that may not be.
func wrongClocks() []api.Clock {
	return []api.Clock{{-1}, {most + 1}, {0, 0, 0, 0, 0, 0}, {1, 2, 3, 4, 5, 6}, {0, 0, 0, 0, -1}, {1, 2, most + 1}}
}

// Ra2: Clean answers ErrArg, if raw, or the clock, may not be, or both.
func TestCleanWrongArguments(t *testing.T) {
	for _, c := range wrongClocks() {
		for i, x := range rightRaws() {
			got, e := Clean(x.k, x.w, c)
			refuse(t, fmt.Sprintf("right raw %d, clock %v", i, c), got, e, api.ErrArg)
		}
	}
	for i, x := range wrongRaws() {
		for _, c := range []api.Clock{nil, all(), {-1}} {
			got, e := Clean(x.k, x.w, c)
			refuse(t, fmt.Sprintf("wrong raw %d, clock %v", i, c), got, e, api.ErrArg)
		}
	}
}

// Ra2: Clean lets go of all Dead that the clock has, and of nothing else.
func TestClean(t *testing.T) {
	// Of some, Dead are 1.3 and 4.1 of "a", which has no Live, and 1.4 of "b".
	for i, c := range []struct {
		clock api.Clock
		want  api.Raw
	}{
		{nil, some()}, {api.Clock{}, some()}, {api.Clock{0, 0, 0, 0, 0}, some()}, {api.Clock{2, most, most, 0, most}, some()},
		{api.Clock{3}, but(func(w *api.Raw) { w.Sets[1][0].Dead = list(dot(4, 1)) })},
		{api.Clock{0, 0, 0, 1, 0}, but(func(w *api.Raw) { w.Sets[1][0].Dead = list(dot(1, 3)) })},
		{api.Clock{3, 0, 0, 1}, but(func(w *api.Raw) { w.Sets[1] = w.Sets[1][1:] })},
		{api.Clock{4}, but(func(w *api.Raw) { w.Sets[1][0].Dead, w.Sets[1][1].Dead = list(dot(4, 1)), nil })},
		{api.Clock{4, 0, 0, 1}, but(func(w *api.Raw) { w.Sets[1], w.Sets[1][1].Dead = w.Sets[1][1:], nil })},
		{all(), plainOf(some())},
	} {
		got, e := Clean(mixed(), some(), c.clock)
		hold(t, fmt.Sprintf("%d, %v", i, c.clock), got, e, c.want)
		if Check(mixed(), got) != api.OK {
			t.Errorf("%d: may not be", i)
		}
	}
	for i, x := range rightRaws() {
		got, e := Clean(x.k, x.w, nil)
		hold(t, fmt.Sprintf("right raw %d, by nothing", i), got, e, x.w)
		got, e = Clean(x.k, x.w, all())
		hold(t, fmt.Sprintf("right raw %d, by all", i), got, e, plainOf(x.w))
	}
}
