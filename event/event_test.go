package event

import (
	"bytes"
	"math"
	"slices"
	"strings"
	"testing"

	"huckster/api"
	"huckster/dots"
)

// most is the greatest number that a dot has.
const most = api.MaxSeq

// dot is a dot in short.
func dot(rep, seq int) api.Dot { return api.Dot{Rep: rep, Seq: seq} }

// plus is an effect that may be.
func plus() api.Effect { return api.Effect{Kind: api.EffAdd, Key: "k"} }

// named is an event that has one effect.
func named(rep, seq int, past ...int) api.Event {
	return api.Event{Dot: dot(rep, seq), Past: past, Effects: []api.Effect{plus()}}
}

// with is an event of effects.
func with(l ...api.Effect) api.Event { return api.Event{Dot: dot(1, 1), Effects: l} }

// many are n effects that may be.
func many(n int) []api.Effect {
	var l []api.Effect
	for i := range n {
		l = append(l, api.Effect{Kind: api.EffUp, Of: i % 16, Key: strings.Repeat("k", 1+i%32), N: 1 + i})
	}
	return l
}

// rightEffects are effects that may be: of each kind, and at each edge.
func rightEffects() []api.Effect {
	long, word := strings.Repeat("x", 32), strings.Repeat("\x00", 64)
	return []api.Effect{
		plus(), {Kind: 1, Of: 15, Key: long}, {Kind: 2, Key: "\x00"}, {Kind: 2, Of: 15, Key: "\xff\xfe"},
		{Kind: 3, Key: "k", N: 1}, {Kind: 3, Of: 7, Key: long, N: 1000}, {Kind: 4, Key: "k", N: 1}, {Kind: 4, Of: 15, Key: " ", N: 1000},
		{Kind: 5, Key: "k", N: 1, To: 1}, {Kind: 5, Of: 15, Key: long, N: 1000, To: 5}, {Kind: 5, Key: "k", N: 255, To: 3}, {Kind: 5, Key: "k", N: 256, To: 3},
		{Kind: 6, Key: "k"}, {Kind: 6, Key: "k", Word: "w"}, {Kind: 6, Of: 15, Key: long, Word: word}, {Kind: 6, Key: "key", Word: "größe"},
	}
}

// wrongEffects are effects that may not be, each for one reason alone.
func wrongEffects() []api.Effect {
	return []api.Effect{
		{}, {Kind: 0, Key: "k"}, {Kind: 7, Key: "k"}, {Kind: -1, Key: "k"}, {Kind: 1<<32 + 1, Key: "k"}, {Kind: math.MinInt, Key: "k"},
		{Kind: 1}, {Kind: 1, Key: strings.Repeat("k", 33)}, {Kind: 6, Word: "w"}, {Kind: 3, N: 1}, {Kind: 1, Key: strings.Repeat("ö", 17)},
		{Kind: 1, Of: -1, Key: "k"}, {Kind: 1, Of: 16, Key: "k"}, {Kind: 2, Of: math.MaxInt, Key: "k"},
		{Kind: 1, Key: "k", N: 1}, {Kind: 1, Key: "k", To: 1}, {Kind: 1, Key: "k", Word: "w"}, {Kind: 2, Key: "k", N: -1}, {Kind: 2, Key: "k", To: -1}, {Kind: 2, Key: "k", Word: "\x00"},
		{Kind: 3, Key: "k"}, {Kind: 3, Key: "k", N: 1001}, {Kind: 3, Key: "k", N: -1}, {Kind: 3, Key: "k", N: 1, To: 1}, {Kind: 3, Key: "k", N: 1, Word: "w"},
		{Kind: 4, Key: "k"}, {Kind: 4, Key: "k", N: 1001}, {Kind: 4, Key: "k", N: math.MinInt}, {Kind: 4, Key: "k", N: 1, To: 5}, {Kind: 4, Key: "k", N: 1, Word: "w"},
		{Kind: 5, Key: "k", N: 1}, {Kind: 5, Key: "k", To: 1}, {Kind: 5, Key: "k", N: 1, To: 6}, {Kind: 5, Key: "k", N: 1001, To: 1}, {Kind: 5, Key: "k", N: 1, To: -1}, {Kind: 5, Key: "k", N: 1, To: 1, Word: "w"},
		{Kind: 6, Key: "k", Word: strings.Repeat("w", 65)}, {Kind: 6, Key: "k", N: 1}, {Kind: 6, Key: "k", To: 1}, {Kind: 6, Key: "k", N: -1, Word: "w"},
	}
}

// rightEvents are events that may be, no two alike.
func rightEvents() []api.Event {
	l := []api.Event{
		named(1, 1), named(2, 1), named(5, 1), named(2, 1, 1), named(1, 2, 1), named(1, 1, 0, 1), named(3, 1, 0, 0, 0, 4), named(3, 2, 7, 0, 1),
		named(5, most, 0, 0, 0, 0, most-1), named(1, most, most-1), named(1, 1, 0, most, most, most, most), named(4, 300, 255, 256, 65535, 299, 65536),
		with(many(2)...), with(many(15)...), with(many(16)...), with(rightEffects()...),
	}
	for _, x := range rightEffects()[1:] {
		l = append(l, with(x), api.Event{Dot: dot(2, 3), Past: api.Clock{9, 2, 4}, Effects: []api.Effect{plus(), x, x}})
	}
	return l
}

// wrongEvents are events that may not be, each for one reason alone.
func wrongEvents() []api.Event {
	l := []api.Event{
		{},
		// The Dot may not be.
		named(0, 1), named(-1, 1), named(6, 1), named(1<<32+1, 1), named(1, 0), named(1, -1), named(0, 0), named(1, most+1, most), named(2, math.MinInt), named(math.MaxInt, math.MaxInt),
		// The Past may not be.
		named(1, 1, 0, -1, 1), named(1, 1, 0, most+1), named(1, 1, 0, 2, 3, 4, 5, 6), named(1, 1, 0, 0, 0, 0, 0, 0), named(1, 1, 0, math.MaxInt), named(1, 1, 0, math.MinInt, 1),
		// The Past is not plain.
		named(1, 1, 0), named(1, 1, 0, 0), named(2, 1, 1, 0), named(1, 2, 1, 0), named(1, 1, 0, 0, 0, 0, 0), named(3, 2, 0, 0, 1, 0),
		// The number of the Dot's Rep is not its Seq less one.
		named(1, 1, 1), named(1, 1, 2), named(1, 2), named(1, 2, 2), named(1, 2, 3), named(1, 3, 1), named(2, 2, 1), named(2, 2, 1, 2), named(2, 1, 0, 1), named(5, most), named(1, most, most),
		// There are none, or too many effects.
		with(), {Dot: dot(1, 1), Effects: []api.Effect{}}, with(many(17)...), with(many(100)...), {Dot: dot(2, 1), Past: api.Clock{1}},
	}
	for _, x := range wrongEffects() {
		l = append(l, with(x), with(plus(), x), with(x, plus()), with(append(many(15), x)...))
	}
	return l
}

// mayEffect tells whether an effect may be, by the chapter's words alone: the greatest and the least that is named of each kind.
func mayEffect(x api.Effect) bool {
	if len(x.Key) == 0 || len(x.Key) > 32 || x.Of < 0 || x.Of > 15 {
		return false
	}
	bounds, ok := map[int]struct{ leastN, mostN, leastTo, mostTo, word int }{
		api.EffAdd: {}, api.EffDrop: {}, api.EffUp: {leastN: 1, mostN: 1000}, api.EffDown: {leastN: 1, mostN: 1000},
		api.EffMove: {leastN: 1, mostN: 1000, leastTo: 1, mostTo: 5}, api.EffSet: {word: 64},
	}[x.Kind]
	return ok && x.N >= bounds.leastN && x.N <= bounds.mostN && x.To >= bounds.leastTo && x.To <= bounds.mostTo && len(x.Word) <= bounds.word
}

// num, text and pack are bytes, by layer 2's words alone.
func num(n int) []byte {
	var digits []byte
	for ; n > 0; n /= 256 {
		digits = append([]byte{byte(n % 256)}, digits...)
	}
	return append([]byte{byte(len(digits))}, digits...)
}

func text(t []byte) []byte { return append(num(len(t)), t...) }

func pack(l ...[]byte) []byte {
	b := num(len(l))
	for _, t := range l {
		b = append(b, text(t)...)
	}
	return b
}

// nums is a pack of numbers' bytes.
func nums(l ...int) []byte {
	var texts [][]byte
	for _, n := range l {
		texts = append(texts, num(n))
	}
	return pack(texts...)
}

// effectTextsOf are the texts of an effect's pack, by the chapter's words alone.
func effectTextsOf(x api.Effect) [][]byte {
	return [][]byte{num(x.Kind), num(x.Of), num(x.N), num(x.To), []byte(x.Key), []byte(x.Word)}
}

// bytesOf is an event's bytes, by the chapter's words alone, of one with numbers that are not below nought.
func bytesOf(e api.Event) []byte {
	texts := [][]byte{nums(e.Dot.Rep, e.Dot.Seq), nums(e.Past...)}
	for _, x := range e.Effects {
		texts = append(texts, pack(effectTextsOf(x)...))
	}
	return pack(texts...)
}

// hasBytes tells whether no number of an event is below nought.
func hasBytes(e api.Event) bool {
	l := append([]int{e.Dot.Rep, e.Dot.Seq}, e.Past...)
	for _, x := range e.Effects {
		l = append(l, x.Kind, x.Of, x.N, x.To)
	}
	return slices.Min(l) >= 0
}

// alike tells whether two events have the same, without asking Same.
func alike(a, b api.Event) bool {
	return a.Dot == b.Dot && slices.Equal(a.Past, b.Past) && slices.Equal(a.Effects, b.Effects)
}

// copied is a copy in new memory.
func copied(e api.Event) api.Event {
	return api.Event{Dot: e.Dot, Past: slices.Clone(e.Past), Effects: slices.Clone(e.Effects)}
}

// noGet fails unless Get tells ErrText alone.
func noGet(t *testing.T, b []byte) {
	t.Helper()
	if got, e := Get(b); e != api.ErrText || got.Dot != (api.Dot{}) || got.Past != nil || got.Effects != nil {
		t.Errorf("Get(% x) = %v, %d, want ErrText alone", b, got, e)
	}
}

// orders calls f with every order of a list, from place at on.
func orders[T any](l []T, at int, f func([]T)) {
	if at == len(l) {
		f(l)
		return
	}
	for i := at; i < len(l); i++ {
		l[at], l[i] = l[i], l[at]
		orders(l, at+1, f)
		l[at], l[i] = l[i], l[at]
	}
}

// dice is a row of numbers that seem to have no rule.
type dice uint32

// roll is the next one, below n.
func (d *dice) roll(n int) int {
	*d = *d*1664525 + 1013904223
	return int(*d>>8) % n
}

// mixed is a list in another order.
func mixed[T any](l []T, d *dice) []T {
	l = slices.Clone(l)
	for i := range l {
		k := i + d.roll(len(l)-i)
		l[i], l[k] = l[k], l[i]
	}
	return l
}

// history are events as replicas make them that hear of one another now and then.
func history(seed, reps, n int) []api.Event {
	d := dice(seed)
	known := make([][5]int, reps)
	var l []api.Event
	for range n {
		at, from := d.roll(reps), d.roll(reps)
		if d.roll(2) == 0 {
			for i := range known[at] {
				known[at][i] = max(known[at][i], known[from][i])
			}
		}
		size := 5
		for size > 0 && known[at][size-1] == 0 {
			size--
		}
		past := slices.Clone(known[at][:size])
		known[at][at]++
		l = append(l, api.Event{Dot: dot(at+1, known[at][at]), Past: past, Effects: many(1 + d.roll(3))})
	}
	return l
}

// Ev2: the chapter's example.
func TestExample(t *testing.T) {
	a, b := named(1, 1), named(2, 1, 1)
	if !Ahead(a, b) || Ahead(b, a) {
		t.Errorf("Ahead of 1.1 and 2.1 = %v, %v", Ahead(a, b), Ahead(b, a))
	}
}

// Ev1: every effect at the edges of its kind, key, number and word.
func TestCheckEffectEdges(t *testing.T) {
	for kind := -1; kind <= 8; kind++ {
		for _, key := range []int{0, 1, 32, 33} {
			for _, of := range []int{-1, 0, 1, 14, 15, 16} {
				for _, n := range []int{-1, 0, 1, 2, 999, 1000, 1001} {
					for _, to := range []int{-1, 0, 1, 2, 5, 6} {
						for _, word := range []int{0, 1, 64, 65} {
							x := api.Effect{Kind: kind, Of: of, Key: strings.Repeat("k", key), N: n, To: to, Word: strings.Repeat("w", word)}
							wantEffect(t, x, mayEffect(x))
						}
					}
				}
			}
		}
	}
}

// wantEffect fails unless CheckEffect tells whether an effect may be, and Check of an event that has it alone.
func wantEffect(t *testing.T, x api.Effect, may bool) {
	t.Helper()
	want := api.ErrArg
	if may {
		want = api.OK
	}
	if e := CheckEffect(x); e != want {
		t.Errorf("CheckEffect(%+v) = %d", x, e)
	}
	if e := Check(with(x)); e != want {
		t.Errorf("Check of %+v alone = %d", x, e)
	}
}

// Ev1: effects by hand, so that the words are not read wrong twice.
func TestCheckEffect(t *testing.T) {
	for _, x := range rightEffects() {
		wantEffect(t, x, true)
	}
	for _, x := range wrongEffects() {
		wantEffect(t, x, false)
	}
}

// Ev1: events that may be, and those that may not, for each reason.
func TestCheck(t *testing.T) {
	for _, e := range rightEvents() {
		if got := Check(e); got != api.OK {
			t.Errorf("Check(%+v) = %d", e, got)
		}
	}
	for _, e := range wrongEvents() {
		if got := Check(e); got != api.ErrArg {
			t.Errorf("Check(%+v) = %d", e, got)
		}
	}
}

// Ev1: each Dot against small pasts: that of its Rep is one less, and the last number is no nought.
func TestCheckPast(t *testing.T) {
	for rep := 1; rep <= 3; rep++ {
		for seq := 1; seq <= 4; seq++ {
			for code := range 4 * 4 * 4 * 4 {
				size := code % 4
				past := []int{code / 4 % 4, code / 16 % 4, code / 64 % 4}
				at := 0
				if rep <= size {
					at = past[rep-1]
				}
				may := at == seq-1 && (size == 0 || past[size-1] > 0)
				if got := Check(named(rep, seq, past[:size]...)); (got == api.OK) != may {
					t.Errorf("Check(%d.%d, %v) = %d", rep, seq, past[:size], got)
				}
			}
		}
	}
}

// Ev1: how many effects there are.
func TestCheckEffects(t *testing.T) {
	for n := range 40 {
		if got := Check(with(many(n)...)); (got == api.OK) != (n >= 1 && n <= 16) {
			t.Errorf("Check of %d effects = %d", n, got)
		}
	}
}

// Ev1: bytes by hand.
func TestPutBytes(t *testing.T) {
	e := api.Event{Dot: dot(2, 258), Past: api.Clock{1, 257}, Effects: []api.Effect{
		{Kind: api.EffMove, Of: 3, Key: "ab", N: 1000, To: 5}, {Kind: api.EffSet, Key: "k", Word: "xyz"},
	}}
	want := []byte{
		1, 4, // four texts
		1, 11, 1, 2, 1, 2, 1, 2, 1, 3, 2, 1, 2, // a pack of 2 and 258
		1, 11, 1, 2, 1, 2, 1, 1, 1, 3, 2, 1, 1, // a pack of 1 and 257
		1, 24, 1, 6, 1, 2, 1, 5, 1, 2, 1, 3, 1, 3, 2, 3, 232, 1, 2, 1, 5, 1, 2, 'a', 'b', 0, // a pack of 5, 3, 1000, 5, ab and nothing
		1, 23, 1, 6, 1, 2, 1, 6, 1, 1, 0, 1, 1, 0, 1, 1, 0, 1, 1, 'k', 1, 3, 'x', 'y', 'z', // a pack of 6, 0, 0, 0, k and xyz
	}
	if got, er := Put(e); er != api.OK || !bytes.Equal(got, want) {
		t.Errorf("Put(%+v) =\n%v, %d, want\n%v", e, got, er, want)
	}
	if got, er := Get(want); er != api.OK || !alike(got, e) {
		t.Errorf("Get of that = %+v, %d", got, er)
	}
}

// Ev1 and Ev3: what is put is what the words say, and is got.
func TestPutAndGet(t *testing.T) {
	for _, e := range append(rightEvents(), history(5, 5, 200)...) {
		b, er := Put(e)
		if er != api.OK || !bytes.Equal(b, bytesOf(e)) {
			t.Errorf("Put(%+v) = % x, %d, want % x", e, b, er, bytesOf(e))
		}
		if got, er := Get(b); er != api.OK || !alike(got, e) {
			t.Errorf("Get of Put(%+v) = %+v, %d", e, got, er)
		}
	}
}

// Ev1: nothing is put that may not be, and nothing got, though it has bytes.
func TestPutAndGetWrong(t *testing.T) {
	for _, e := range wrongEvents() {
		if b, er := Put(e); er != api.ErrArg || b != nil {
			t.Errorf("Put(%+v) = % x, %d, want ErrArg alone", e, b, er)
		}
		if hasBytes(e) {
			noGet(t, bytesOf(e))
		}
	}
}

// Ev1: bytes cut anywhere, or with more behind or ahead, are none.
func TestGetCut(t *testing.T) {
	noGet(t, nil)
	noGet(t, []byte{})
	for _, e := range rightEvents() {
		b := bytesOf(e)
		for n := range b {
			noGet(t, b[:n])
		}
		for _, behind := range []byte{0, 1, 255} {
			noGet(t, append(slices.Clone(b), behind))
			noGet(t, append([]byte{behind}, b...))
		}
		noGet(t, append(slices.Clone(b), b...))
	}
}

// Ev1: of each bytes there is one event at most: one byte turned makes none, or one that has these bytes.
func TestGetTurned(t *testing.T) {
	for _, e := range rightEvents() {
		b := bytesOf(e)
		for i := range b {
			for _, other := range []byte{0, 1, 2, 3, 5, 6, 7, 8, 9, 16, 17, 33, 65, 128, 255, b[i] + 1, b[i] - 1, b[i] ^ 1} {
				turned := slices.Clone(b)
				turned[i] = other
				got, er := Get(turned)
				if er == api.ErrText {
					noGet(t, turned)
					continue
				}
				if er != api.OK || !bytes.Equal(bytesOf(got), turned) || Check(got) != api.OK {
					t.Errorf("Get(% x) = %+v, %d", turned, got, er)
				}
			}
		}
	}
}

// Ev1: numbers of another form, and of too many bytes, are none, wherever they stand.
func TestGetNumbers(t *testing.T) {
	right := effectTextsOf(api.Effect{Kind: api.EffMove, Of: 2, Key: "k", N: 3, To: 4})
	wrongForms := [][]byte{{}, {1}, {1, 0}, {2, 0, 1}, {1, 1, 0}, {0, 0}, {2, 1}, {9, 1, 1, 1, 1, 1, 1, 1, 1, 1}, {8, 1, 0, 0, 0, 0, 0, 0, 1}, {8, 255, 255, 255, 255, 255, 255, 255, 255}, {5, 1, 0, 0, 0, 1}}
	for _, form := range wrongForms {
		for at := range 4 {
			texts := slices.Clone(right)
			texts[at] = form
			noGet(t, pack(nums(1, 1), nums(), pack(texts...)))
		}
		noGet(t, pack(pack(form, num(1)), nums(), pack(right...)))
		noGet(t, pack(pack(num(1), form), nums(), pack(right...)))
		noGet(t, pack(nums(1, 1), pack(num(0), form), pack(right...)))
		noGet(t, pack(nums(1, 1), form, pack(right...)))
		noGet(t, pack(form, nums(), pack(right...)))
		noGet(t, pack(nums(1, 1), nums(), form))
		noGet(t, form)
	}
	// The same number of texts, told in two bytes.
	noGet(t, append([]byte{2, 0}, pack(nums(1, 1), nums(), pack(right...))[1:]...))
	noGet(t, pack(append([]byte{2, 0}, nums(1, 1)[1:]...), nums(), pack(right...)))
	noGet(t, pack(nums(1, 1), append([]byte{2, 0}, nums(0, 1)[1:]...), pack(right...)))
	noGet(t, pack(nums(1, 1), nums(), append([]byte{2, 0}, pack(right...)[1:]...)))
	if _, er := Get(pack(nums(1, 1), nums(0, 1), pack(right...))); er != api.OK {
		t.Errorf("Get of the right forms = %d", er)
	}
}

// Ev1: one text too few or too many, in the event's pack, the Dot's, the Past's and the effect's, and a byte behind each.
func TestGetTexts(t *testing.T) {
	effect := effectTextsOf(plus())
	right := [][]byte{nums(2, 1), nums(1), pack(effect...), pack(effect...)}
	if _, er := Get(pack(right...)); er != api.OK {
		t.Errorf("Get of the right texts = %d", er)
	}
	for n := range 3 {
		noGet(t, pack(right[:n]...))
	}
	for n := 1; n <= 20; n++ {
		_, er := Get(pack(append(slices.Clone(right[:2]), slices.Repeat(right[2:3], n)...)...))
		if (er == api.OK) != (n <= 16) {
			t.Errorf("Get of %d effects = %d", n, er)
		}
	}
	for at := range right {
		for _, other := range [][]byte{{}, {0}, append(slices.Clone(right[at]), 0), right[at][:len(right[at])-1]} {
			texts := slices.Clone(right)
			texts[at] = other
			if at == 1 && bytes.Equal(other, []byte{0}) {
				continue // a Past of nothing has these bytes
			}
			noGet(t, pack(texts...))
		}
	}
	for _, l := range [][]int{{}, {2}, {2, 1, 0}, {2, 1, 1}, {1, 2, 1}} {
		noGet(t, pack(nums(l...), nums(1), right[2]))
	}
	noGet(t, pack(nums(2, 1), nums(1, 0), right[2]))
	noGet(t, pack(nums(2, 1), nums(1, 0, 1, 1, 1, 1), right[2]))
	for n := range effect {
		noGet(t, pack(nums(2, 1), nums(1), pack(effect[:n]...)))
	}
	for _, more := range [][]byte{{}, {0}, []byte("w")} {
		noGet(t, pack(nums(2, 1), nums(1), pack(append(slices.Clone(effect), more)...)))
		noGet(t, pack(nums(2, 1), nums(1), right[2], pack(append([][]byte{more}, effect...)...)))
	}
}

// Ev1: alike are those that have the same, all of it; an empty list, and none, are the same.
func TestSame(t *testing.T) {
	l := append(rightEvents(), wrongEvents()...)
	for _, a := range l {
		if !Same(a, copied(a)) {
			t.Errorf("Same(%+v, a copy) = false", a)
		}
		for _, b := range l {
			if got := Same(a, b); got != alike(a, b) {
				t.Errorf("Same(%+v, %+v) = %v", a, b, got)
			}
		}
	}
	if !Same(api.Event{}, api.Event{Past: api.Clock{}, Effects: []api.Effect{}}) || !Same(api.Event{Past: api.Clock{}}, api.Event{Effects: []api.Effect{}}) {
		t.Error("nothing is not the same as nothing")
	}
}

// Ev1: events that are unlike in one place alone.
func TestSameUnlike(t *testing.T) {
	x := api.Effect{Kind: api.EffMove, Of: 1, Key: "k", N: 2, To: 3, Word: "w"}
	a := api.Event{Dot: dot(2, 3), Past: api.Clock{1, 2}, Effects: []api.Effect{x, plus()}}
	turns := []func(*api.Event){
		func(e *api.Event) { e.Dot.Rep++ },
		func(e *api.Event) { e.Dot.Seq++ },
		func(e *api.Event) { e.Past[0]++ },
		func(e *api.Event) { e.Past[1]++ },
		func(e *api.Event) { e.Past = nil },
		func(e *api.Event) { e.Past = append(e.Past, 1) },
		func(e *api.Event) { e.Past = append(e.Past, 0) },
		func(e *api.Event) { e.Effects[0].Kind++ },
		func(e *api.Event) { e.Effects[0].Of++ },
		func(e *api.Event) { e.Effects[0].Key += "k" },
		func(e *api.Event) { e.Effects[0].N++ },
		func(e *api.Event) { e.Effects[0].To++ },
		func(e *api.Event) { e.Effects[0].Word = "v" },
		func(e *api.Event) { e.Effects[1].Key = "l" },
		func(e *api.Event) { e.Effects = nil },
		func(e *api.Event) { e.Effects = e.Effects[:1] },
		func(e *api.Event) { e.Effects = append(e.Effects, plus()) },
		func(e *api.Event) { e.Effects[0], e.Effects[1] = e.Effects[1], e.Effects[0] },
	}
	for i, turn := range turns {
		b := copied(a)
		turn(&b)
		if Same(a, b) || Same(b, a) {
			t.Errorf("turn %d: Same(%+v, %+v) = true", i, a, b)
		}
	}
}

// Ev2: ahead, behind, apart, and alike.
func TestAhead(t *testing.T) {
	for _, c := range []struct {
		a, b            api.Event
		ahead, isBehind bool
	}{
		{named(1, 1), named(2, 1, 1), true, false},
		{named(1, 1), named(1, 2, 1), true, false},
		{named(1, 1), named(1, 3, 2), true, false},
		{named(1, 3, 2), named(2, 1, 2), false, false},
		{named(1, 3, 2), named(2, 1, 3), true, false},
		{named(1, 3, 2), named(2, 1, 4), true, false},
		{named(1, 1), named(2, 1), false, false},
		{named(1, 1), named(1, 1), false, false},
		{named(1, 1, 0, 1), named(1, 1), false, false},
		{named(2, 2, 0, 1), named(1, 4, 3, 1), false, false},
		{named(5, most, 0, 0, 0, 0, most-1), named(4, 1, 0, 0, 0, 0, most), true, false},
		{named(5, most, 0, 0, 0, 0, most-1), named(4, 1, 0, 0, 0, 0, most-1), false, false},
		{named(1, 1, 0, 0, 1), named(3, 1, 1), true, true}, // each Past has the other one's Dot: what is said holds of both
	} {
		if got, back := Ahead(c.a, c.b), Ahead(c.b, c.a); got != c.ahead || back != c.isBehind {
			t.Errorf("Ahead of %v and %v = %v, %v", c.a, c.b, got, back)
		}
	}
	for _, e := range rightEvents() {
		if Ahead(e, e) {
			t.Errorf("%+v is ahead of itself", e)
		}
	}
}

// Ev2: each Dot against each small Past; the effects, and a's own Past, do not matter.
func TestAheadNear(t *testing.T) {
	for rep := 1; rep <= 5; rep++ {
		for seq := 1; seq <= 4; seq++ {
			for n := range 6 {
				past := api.Clock{9, 9, 9, 9, 9}
				past[rep-1] = n
				b := api.Event{Dot: dot(rep%5+1, 10), Past: past}
				if got := Ahead(named(rep, seq), b); got != (seq <= n) {
					t.Errorf("Ahead(%d.%d, %v) = %v", rep, seq, past, got)
				}
				if got := Ahead(named(rep, seq), api.Event{Past: past[:rep-1]}); got {
					t.Errorf("Ahead(%d.%d, %v) = %v", rep, seq, past[:rep-1], got)
				}
			}
		}
	}
	for _, past := range []api.Clock{{-1, 5}, {5, 5, 5, 5, 5, 5}, {most + 1}, {5, math.MaxInt}} {
		if Ahead(named(1, 1), api.Event{Past: past}) || Ahead(named(2, 1), api.Event{Past: past}) {
			t.Errorf("a Past that may not be, %v, has dots", past)
		}
	}
}

// Ev2: what a Past has are dots that may be: an event whose Dot may not be is ahead of none, itself among them.
func TestAheadOfADotThatMayNotBe(t *testing.T) {
	pasts := []api.Clock{nil, {}, {1}, {0, 1}, {3, 0, 2}, {9, 9, 9, 9, 9}, {most, most, most, most, most}, {-1, 5}, {0, 0, 0, 0, 0, 5}}
	wrongReps := []int{math.MinInt, -1, 0, 6, 7, math.MaxInt}
	wrongSeqs := []int{math.MinInt, -3, -1, 0, most + 1, math.MaxInt}
	var wrong []api.Dot
	for _, rep := range wrongReps {
		for _, seq := range append([]int{1, 2, most}, wrongSeqs...) {
			wrong = append(wrong, dot(rep, seq))
		}
	}
	for rep := 1; rep <= 5; rep++ {
		for _, seq := range wrongSeqs {
			wrong = append(wrong, dot(rep, seq))
		}
	}
	for _, d := range wrong {
		for _, past := range pasts {
			a := api.Event{Dot: d, Past: past}
			if Ahead(a, a) || Ahead(a, api.Event{Past: past}) || Ahead(api.Event{Dot: d}, api.Event{Dot: dot(2, 1), Past: past}) {
				t.Errorf("the Past %v is told to have %v, which may not be", past, d)
			}
		}
	}
}

// Ev2: of one word there is one meaning: a dot is ahead by a Past, if and only if those seen up to that Past have it.
func TestAheadIsWhatAPastHas(t *testing.T) {
	for _, past := range []api.Clock{nil, {1}, {0, 1}, {3, 0, 2}, {1, 2, 3, 4, 5}, {0, 0, 0, 0, most}} {
		for rep := -1; rep <= 7; rep++ {
			for _, seq := range []int{-2, -1, 0, 1, 2, 3, 4, 5, 6, most - 1, most, most + 1} {
				want := dots.Has(api.Seen{Upto: past}, dot(rep, seq))
				if got := Ahead(api.Event{Dot: dot(rep, seq)}, api.Event{Past: past}); got != want {
					t.Errorf("Ahead(%d.%d, %v) = %v, want %v", rep, seq, past, got, want)
				}
			}
		}
	}
}

// wantOrder fails unless Order tells want.
func wantOrder(t *testing.T, l, want []api.Event) {
	t.Helper()
	if got := Order(l); !slices.EqualFunc(got, want, alike) {
		t.Errorf("Order(%v) = %v, want %v", l, got, want)
	}
}

// Ev2: none, one, and by the sum of Past, then by Rep, then by Seq.
func TestOrder(t *testing.T) {
	wantOrder(t, nil, nil)
	wantOrder(t, []api.Event{}, nil)
	wantOrder(t, []api.Event{{}}, []api.Event{{}})
	for _, e := range append(rightEvents(), wrongEvents()...) {
		wantOrder(t, []api.Event{e}, []api.Event{e})
	}
	want := []api.Event{
		named(1, 1), named(2, 1), named(5, 1), named(1, 1, 0, 1), named(1, 2, 1), named(2, 1, 1), named(2, 2, 0, 1),
		named(2, 2, 1, 1), named(1, 3, 2, 1), named(1, 4, 3), named(3, 1, 1, 1, 0, 1), named(1, 1, 0, 2, 1, 1), named(5, most, 0, 0, 0, 0, most-1),
		named(1, 2, 1, most, most, most, most),
	}
	wantOrder(t, want, want)
	d := dice(3)
	for range 50 {
		wantOrder(t, mixed(want, &d), want)
	}
	backward := slices.Clone(want)
	slices.Reverse(backward)
	wantOrder(t, backward, want)
}

// Ev2: every order of a few.
func TestOrderEveryOrder(t *testing.T) {
	want := []api.Event{named(2, 1), named(3, 1), named(1, 1, 0, 1), named(3, 2, 0, 0, 1), named(2, 2, 1, 1, 1), named(1, 2, 1, 2, 1)}
	orders(slices.Clone(want), 0, func(l []api.Event) { wantOrder(t, l, want) })
}

// Ev2: those alike in order stay as they are in l, however many there are, though they are unlike.
func TestOrderStable(t *testing.T) {
	marked := func(e api.Event, i int) api.Event {
		e.Effects = []api.Effect{{Kind: api.EffUp, Key: "k", N: i}}
		return e
	}
	d := dice(11)
	pasts := []api.Event{named(1, 1), named(1, 1, 0, 2), named(1, 1, 0, 1, 1), named(1, 1, 0, 0, 2), named(2, 1, 1), named(2, 1, 0, 0, 1)}
	for _, n := range []int{2, 3, 10, 13, 40, 400} {
		var l []api.Event
		for i := range n {
			l = append(l, marked(pasts[d.roll(len(pasts))], i))
		}
		want := []api.Event{}
		for _, group := range [][]int{{0}, {4, 5}, {1, 2, 3}} {
			for _, e := range l {
				if slices.ContainsFunc(group, func(i int) bool { return e.Dot == pasts[i].Dot && slices.Equal(e.Past, pasts[i].Past) }) {
					want = append(want, e)
				}
			}
		}
		wantOrder(t, l, want)
	}
}

// Ev2: all are told, those that may not be too: a Past that may not be is one of nothing (layer 3).
func TestOrderWrong(t *testing.T) {
	want := []api.Event{{}, named(1, -1), named(1, 0), named(1, 1, -5, 9), named(2, 1, 1, 2, 3, 4, 5, 6), named(1, 1, 1, 0), named(6, 1, 1), named(1, 1, 2)}
	d := dice(9)
	for range 50 {
		wantOrder(t, mixed(want, &d), want)
	}
}

// isClosed tells whether events are closed, by the chapter's words alone.
func isClosed(l []api.Event) bool {
	for i, e := range l {
		if Check(e) != api.OK {
			return false
		}
		for k, other := range l {
			if i != k && e.Dot == other.Dot {
				return false
			}
		}
		for at, n := range e.Past {
			for seq := 1; seq <= n; seq++ {
				if !slices.ContainsFunc(l, func(x api.Event) bool { return x.Dot == dot(at+1, seq) }) {
					return false
				}
			}
		}
	}
	return true
}

// Ev2: every set of some events, of which some have one Dot.
func TestClosedSets(t *testing.T) {
	all := []api.Event{
		named(1, 1), named(1, 1, 0, 1), named(1, 2, 1), named(1, 2, 1, 2), named(1, 3, 2), named(2, 1), named(2, 1, 1), named(2, 2, 0, 1),
		named(2, 2, 3, 1), named(5, 1, 2, 1), named(5, 2, 0, 0, 0, 0, 1), named(3, 1, 0, 0, 0, 0, 2),
	}
	closed := 0
	for set := range 1 << len(all) {
		var l []api.Event
		for i, e := range all {
			if set>>i&1 == 1 {
				l = append(l, e)
			}
		}
		want := isClosed(l)
		if want {
			closed++
		}
		if got := Closed(l); got != want {
			t.Errorf("Closed(%v) = %v", l, got)
		}
		slices.Reverse(l)
		if got := Closed(l); got != want {
			t.Errorf("Closed(%v) = %v", l, got)
		}
	}
	if closed < 20 {
		t.Errorf("only %d sets are closed", closed)
	}
}

// Ev2: none, one, two with one Dot, those whose Past lacks a dot, in every order.
func TestClosed(t *testing.T) {
	for _, c := range []struct {
		l    []api.Event
		want bool
	}{
		{nil, true},
		{[]api.Event{}, true},
		{[]api.Event{named(1, 1)}, true},
		{[]api.Event{named(5, 1)}, true},
		{[]api.Event{named(1, 2, 1)}, false},
		{[]api.Event{named(2, 1, 1)}, false},
		{[]api.Event{named(5, most, 0, 0, 0, 0, most-1)}, false},
		{[]api.Event{named(1, 1), named(1, 1)}, false},
		{[]api.Event{named(1, 1), named(1, 1, 0, 1), named(2, 1)}, false},
		{[]api.Event{named(1, 1), named(2, 1, 1)}, true},
		{[]api.Event{named(1, 1), named(2, 1, 2)}, false},
		{[]api.Event{named(1, 1), named(1, 3, 2)}, false},
		{[]api.Event{named(1, 1), named(1, 3, 2), named(1, 4, 3)}, false},
		{[]api.Event{named(1, 1), named(1, 2, 1), named(1, 3, 2), named(1, 4, 3)}, true},
		{[]api.Event{named(1, 1), named(2, 1), named(3, 1, 1, 1)}, true},
		{[]api.Event{named(1, 1), named(2, 1), named(3, 1, 1, 1), named(4, 1, 0, 0, 1)}, true}, // a Past need not have the Past of what it has
		{[]api.Event{named(1, 1), named(2, 1), named(3, 1, 1, 1, 0, 1)}, false},
		{[]api.Event{named(1, 1, 0, 1), named(2, 1, 1)}, true},
	} {
		orders(slices.Clone(c.l), 0, func(l []api.Event) {
			if got := Closed(l); got != c.want {
				t.Errorf("Closed(%v) = %v", l, got)
			}
		})
	}
}

// Ev2: one that may not be lets none be closed, wherever it stands.
func TestClosedWrong(t *testing.T) {
	for _, e := range wrongEvents() {
		for _, l := range [][]api.Event{{e}, {named(2, 1), e}, {e, named(2, 1)}, {named(2, 1), e, named(3, 1, 0, 1)}, {named(1, 1), named(1, 2, 1), e}} {
			if Closed(l) {
				t.Errorf("Closed(%v) = true", l)
			}
		}
	}
}

// Ev2: many events of one replica, with and without one of them.
func TestClosedMany(t *testing.T) {
	var l []api.Event
	for seq := range 3000 {
		l = append(l, api.Event{Dot: dot(4, seq+1), Past: api.Clock{0, 0, 0, seq}[:4*min(seq, 1)], Effects: []api.Effect{plus()}})
	}
	d := dice(2)
	if l = mixed(l, &d); !Closed(l) {
		t.Error("3000 events are not closed")
	}
	for at, e := range l[:50] {
		if got := Closed(slices.Delete(slices.Clone(l), at, at+1)); got != (e.Dot.Seq == 3000) {
			t.Errorf("without %v: %v", e.Dot, got)
		}
		if Closed(append(slices.Clone(l), e)) {
			t.Errorf("with %v twice they are closed", e.Dot)
		}
	}
}

// Ev3: events that replicas make are closed, and in order what is ahead of an event stands ahead of it, whatever order they come in.
func TestOrderHasWhatIsAhead(t *testing.T) {
	for seed := range 30 {
		d := dice(seed)
		l := history(seed, 1+seed%5, 60)
		want := Order(l)
		for range 5 {
			l = mixed(l, &d)
			wantOrder(t, l, want)
			if !Closed(l) {
				t.Errorf("history %d is not closed", seed)
			}
		}
		for i, a := range want {
			for _, b := range want[:i+1] {
				if Ahead(a, b) {
					t.Errorf("history %d: %v is ahead of %v, and stands behind it", seed, a.Dot, b.Dot)
				}
			}
			if !Closed(want[:i+1]) {
				t.Errorf("history %d: the first %d in order are not closed", seed, i+1)
			}
		}
	}
}

// spaced is a copy of a list with more behind it, so that what is written there is seen.
func spaced[T any](l []T, behind T) (list, room []T) {
	room = append(slices.Clone(l), behind, behind, behind)
	return room[:len(l)], room
}

// spoil writes to all of an event, and behind its lists.
func spoil(e api.Event) {
	clear(e.Past)
	clear(e.Effects)
	_ = append(e.Past, 60)
	_ = append(e.Effects, api.Effect{Kind: 60})
}

// R3: what is handed in, and what stands behind it, stays as it is, and what is told is new memory.
func TestNewMemory(t *testing.T) {
	for _, e := range append(rightEvents(), wrongEvents()...) {
		past, pastRoom := spaced(e.Past, 77)
		effects, effectsRoom := spaced(e.Effects, api.Effect{Kind: 77})
		given := api.Event{Dot: e.Dot, Past: past, Effects: effects}
		list, listRoom := spaced([]api.Event{named(5, 9, 1, 2, 3, 4, 8), given, named(1, 1), given}, named(3, 77))
		pastWas, effectsWas, listWas := slices.Clone(pastRoom), slices.Clone(effectsRoom), slices.Clone(listRoom)
		Check(given)
		Ahead(given, given)
		Closed(list)
		Same(given, given)
		b, _ := Put(given)
		bytesRoom := append(slices.Clone(b), 7, 7, 7)
		bytesWas := slices.Clone(bytesRoom)
		got, _ := Get(bytesRoom[:len(b)])
		told := append(Order(list), Order(list[:1])...)
		for _, x := range append(told, got) {
			spoil(x)
		}
		clear(told)
		clear(b)
		if !slices.Equal(pastRoom, pastWas) || !slices.Equal(effectsRoom, effectsWas) || !slices.EqualFunc(listRoom, listWas, alike) || !bytes.Equal(bytesRoom, bytesWas) {
			t.Errorf("%+v became %v, %v, %v, %v", e, pastRoom, effectsRoom, listRoom, bytesRoom)
		}
	}
}

// R3 and R4: what is told stays as it is, whatever is done to what was handed in, or to what was told ahead.
func TestAnswersApart(t *testing.T) {
	e := api.Event{Dot: dot(2, 3), Past: api.Clock{9, 2, 4}, Effects: rightEffects()}
	b, _ := Put(e)
	first, _ := Put(e)
	want := slices.Clone(b)
	got, _ := Get(first)
	other, _ := Get(first)
	twice := Order([]api.Event{e, e})
	was := copied(e)
	clear(first)
	spoil(other)
	spoil(e)
	spoil(twice[0])
	if !bytes.Equal(b, want) || !alike(got, was) || !alike(twice[1], was) {
		t.Errorf("answers became % x, %+v, %+v", b, got, twice[1])
	}
}
