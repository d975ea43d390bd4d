package raw

import (
	"bytes"
	"cmp"
	"fmt"
	"maps"
	"math/rand"
	"slices"
	"strings"
	"testing"

	"huckster/api"
)

// knows tells whether a clock has a dot.
func knows(c api.Clock, d api.Dot) bool { return d.Rep <= len(c) && d.Seq <= c[d.Rep-1] }

func isAhead(a, b api.Event) bool { return knows(b.Past, a.Dot) }

// does tells whether an event has an effect.
func does(e api.Event, x api.Effect) bool { return slices.Contains(e.Effects, x) }

// last is the dots of those events that are ahead of none of some others, in order.
func last(l, others []api.Event) []api.Dot {
	var out []api.Dot
	for _, x := range l {
		if !slices.ContainsFunc(others, func(y api.Event) bool { return isAhead(x, y) }) {
			out = append(out, x.Dot)
		}
	}
	slices.SortFunc(out, func(a, b api.Dot) int { return cmp.Or(a.Rep-b.Rep, a.Seq-b.Seq) })
	return out
}

// keysOf is all keys that events name, rising.
func keysOf(l []api.Event) []string {
	keys := map[string]int{}
	for _, e := range l {
		for _, x := range e.Effects {
			keys[x.Key]++
		}
	}
	return slices.Sorted(maps.Keys(keys))
}

// setOf is a plain set by what the layers 8 and 9 promise: of an event that adds and drops a key, that holds which holds there.
func setOf(l []api.Event, of int, dropHolds bool) []api.Entry {
	var s []api.Entry
	for _, key := range keysOf(l) {
		var adds, drops []api.Event
		for _, e := range l {
			isAdd, isDrop := does(e, add(of, key)), does(e, drop(of, key))
			if isDrop && (dropHolds || !isAdd) {
				drops = append(drops, e)
			} else if isAdd {
				adds = append(adds, e)
			}
		}
		others := slices.Concat(adds, drops)
		if dropHolds {
			adds = slices.DeleteFunc(adds, func(a api.Event) bool {
				return slices.ContainsFunc(drops, func(d api.Event) bool { return !isAhead(d, a) })
			})
			others = adds
		}
		if dots := last(adds, others); len(dots) > 0 {
			s = append(s, live(key, dots...))
		}
	}
	return s
}

// haveOf is what each replica has of a count's key.
func haveOf(l []api.Event, of int, key string) [api.MaxReps]int {
	var have [api.MaxReps]int
	for _, e := range l {
		for _, x := range e.Effects {
			if x.Of != of || x.Key != key {
				continue
			}
			switch x.Kind {
			case api.EffUp:
				have[e.Dot.Rep-1] += x.N
			case api.EffDown:
				have[e.Dot.Rep-1] -= x.N
			case api.EffMove:
				have[e.Dot.Rep-1] -= x.N
				have[x.To-1] += x.N
			}
		}
	}
	return have
}

// notesOf is a register: of each key the note of the greatest time, then replica, then word.
func notesOf(l []api.Event, of int) []api.Note {
	latest := map[string]api.Note{}
	for _, e := range l {
		at := 1
		for _, n := range e.Past {
			at += n
		}
		for _, x := range e.Effects {
			if x.Kind != api.EffSet || x.Of != of {
				continue
			}
			n, was := note(x.Key, at, e.Dot.Rep, x.Word), latest[x.Key]
			if cmp.Or(cmp.Compare(n.At, was.At), cmp.Compare(n.Rep, was.Rep), strings.Compare(n.Word, was.Word)) > 0 {
				latest[x.Key] = n
			}
		}
	}
	var out []api.Note
	for _, key := range slices.Sorted(maps.Keys(latest)) {
		out = append(out, latest[key])
	}
	return out
}

// asPromised is the plain raw of events, whatever order they were done in, without the program's functions.
func asPromised(k api.Kinds, l []api.Event) api.Raw {
	w := nothing(k)
	for i, dropHolds := range k.Sets {
		w.Sets[i] = setOf(l, i, dropHolds)
	}
	for i, f := range k.Counts {
		for _, key := range keysOf(l) {
			have := haveOf(l, i, key)
			sum := 0
			for _, n := range have {
				sum += n
			}
			if f.Is && have != [api.MaxReps]int{} {
				w.Accounts[i] = append(w.Accounts[i], api.Account{Key: key, Have: have})
			} else if !f.Is && sum != 0 {
				w.Tallies[i] = append(w.Tallies[i], api.Cell{Key: key, N: sum})
			}
		}
	}
	for i := range w.Regs {
		w.Regs[i] = notesOf(l, i)
	}
	return w
}

// things are one effect of each kind of each thing that there is, without a key and how much.
func things(k api.Kinds) []api.Effect {
	var l []api.Effect
	for i := range k.Sets {
		l = append(l, add(i, ""), drop(i, ""))
	}
	for i, f := range k.Counts {
		l = append(l, up(i, "", 0), down(i, "", 0))
		if f.Is {
			l = append(l, move(i, "", 0, 0))
		}
	}
	for i := range k.Regs {
		l = append(l, setTo(i, "", ""))
	}
	return l
}

// someEffect is an effect that fits.
func someEffect(r *rand.Rand, k api.Kinds, keys []string) api.Effect {
	l := things(k)
	x := l[r.Intn(len(l))]
	x.Key = keys[r.Intn(len(keys))]
	switch x.Kind {
	case api.EffUp, api.EffDown:
		x.N = 1 + r.Intn(3)
	case api.EffMove:
		x.N, x.To = 1+r.Intn(3), 1+r.Intn(api.MaxReps)
	case api.EffSet:
		x.Word = []string{"", "v", "w", "\xff"}[r.Intn(4)]
	}
	return x
}

// history is n events of some replicas, each of which hears of others' now and then: all that is ahead of one is there.
func history(r *rand.Rand, k api.Kinds, n, reps int, keys []string) []api.Event {
	known := make([]api.Clock, reps)
	for i := range known {
		known[i] = make(api.Clock, api.MaxReps)
	}
	var l []api.Event
	for range n {
		me := r.Intn(reps)
		if r.Intn(2) == 0 {
			for i, m := range known[r.Intn(reps)] {
				known[me][i] = max(known[me][i], m)
			}
		}
		var effects []api.Effect
		for range 1 + r.Intn(6) {
			effects = append(effects, someEffect(r, k, keys))
		}
		past := slices.Clone(known[me])
		for len(past) > 0 && past[len(past)-1] == 0 {
			past = past[:len(past)-1]
		}
		l = append(l, deed(me+1, past, effects...))
		known[me][me]++
	}
	return l
}

// shuffled is events in another order in which what is ahead of an event is ahead of it.
func shuffled(r *rand.Rand, l []api.Event) []api.Event {
	left := slices.Clone(l)
	var out []api.Event
	for len(left) > 0 {
		i := r.Intn(len(left))
		if !slices.ContainsFunc(left, func(x api.Event) bool { return isAhead(x, left[i]) }) {
			out = append(out, left[i])
			left = slices.Delete(left, i, i+1)
		}
	}
	return out
}

// do is raw with an event done, which may be.
func do(t *testing.T, k api.Kinds, w api.Raw, e api.Event) api.Raw {
	t.Helper()
	w, err := Apply(k, w, e)
	if err != api.OK || Check(k, w) != api.OK {
		t.Fatalf("%v: %d, %s", e, err, brief(w))
	}
	return w
}

// mustBe tells whether raw, plain, and its bytes, are as asked for.
func mustBe(t *testing.T, what string, k api.Kinds, w, want api.Raw) {
	t.Helper()
	plain, e := Plain(k, w)
	if e != api.OK || text(plain) != text(want) || !Same(plain, want) {
		t.Fatalf("%s: got %s, %d, want %s", what, brief(plain), e, brief(want))
	}
	b, e := Bytes(k, w)
	if e != api.OK || string(b) != wantBytes(want) {
		t.Fatalf("%s: got %x, %d, want %x", what, b, e, wantBytes(want))
	}
}

// someKinds are kinds that histories are of.
func someKinds() []api.Kinds {
	return []api.Kinds{mixed(), greatest(), {Sets: []bool{false}}, {Sets: []bool{true}}, {Counts: []api.Floor{{}}}, {Counts: []api.Floor{floor(-5)}}, {Regs: 1}, {Sets: []bool{true, false}, Regs: 1}}
}

// Ra3: in several orders, at each step, plain raw and its bytes are told by which events were done alone.
func TestOrders(t *testing.T) {
	r := rand.New(rand.NewSource(13))
	for range 25 {
		for _, k := range someKinds() {
			l := history(r, k, 1+r.Intn(20), 1+r.Intn(5), []string{"a", "b", "c"}[:1+r.Intn(3)])
			var whole []byte
			for range 3 {
				order := shuffled(r, l)
				w := nothing(k)
				for i, e := range order {
					w = do(t, k, w, e)
					mustBe(t, fmt.Sprint(order[:i+1]), k, w, asPromised(k, order[:i+1]))
				}
				b, _ := Bytes(k, w)
				if whole != nil && !bytes.Equal(b, whole) {
					t.Fatalf("%v: other bytes", order)
				}
				whole = b
			}
		}
	}
}

// everyOrder calls f with each order of the events in which what is ahead of an event is ahead of it.
func everyOrder(done, left []api.Event, f func([]api.Event)) {
	if len(left) == 0 {
		f(done)
	}
	for i, x := range left {
		if !slices.ContainsFunc(left, func(y api.Event) bool { return isAhead(y, x) }) {
			everyOrder(append(slices.Clone(done), x), slices.Delete(slices.Clone(left), i, i+1), f)
		}
	}
}

// Ra3: the same of all orders of few events.
func TestAllOrders(t *testing.T) {
	r := rand.New(rand.NewSource(130))
	orders := 0
	for range 20 {
		for _, k := range someKinds() {
			l := history(r, k, 5, 3, []string{"a", "b"}[:1+r.Intn(2)])
			want := asPromised(k, l)
			everyOrder(nil, l, func(order []api.Event) {
				w := nothing(k)
				for _, e := range order {
					w = do(t, k, w, e)
				}
				mustBe(t, fmt.Sprint(order), k, w, want)
				orders++
			})
		}
	}
	if orders < 1000 {
		t.Errorf("only %d orders", orders)
	}
}

// stableClock is the greatest clock that is within what was done, and within the Pasts of all later events.
func stableClock(done, later []api.Event) api.Clock {
	c := make(api.Clock, api.MaxReps)
	for _, e := range done {
		c[e.Dot.Rep-1] = max(c[e.Dot.Rep-1], e.Dot.Seq)
	}
	for _, e := range later {
		past := append(slices.Clone(e.Past), make(api.Clock, api.MaxReps)...)
		for i := range c {
			c[i] = min(c[i], past[i])
		}
	}
	return c
}

// Ra2, Ra3: cleaned in between of drops that all later events know, plain raw and its bytes are the same still.
func TestOrdersCleaned(t *testing.T) {
	r := rand.New(rand.NewSource(1300))
	let := 0
	for range 40 {
		for _, k := range []api.Kinds{mixed(), {Sets: []bool{true}}, {Sets: []bool{true, false}, Regs: 1}} {
			order := shuffled(r, history(r, k, 1+r.Intn(20), 1+r.Intn(3), []string{"a", "b"}))
			w, uncleaned := nothing(k), nothing(k)
			for i, e := range order {
				w, uncleaned = do(t, k, w, e), do(t, k, uncleaned, e)
				var err api.Errno
				if w, err = Clean(k, w, stableClock(order[:i+1], order[i+1:])); err != api.OK {
					t.Fatal(err)
				}
				mustBe(t, fmt.Sprint(order[:i+1]), k, w, asPromised(k, order[:i+1]))
				if i < len(order)-1 && text(w) != text(uncleaned) {
					let++
				}
			}
		}
	}
	if let < 50 {
		t.Errorf("only %d steps ahead of the end let go of drops", let)
	}
}

// Ra3: an event that adds and drops one key, apart from others that add it, that drop it, and that do both.
func TestOrdersOfAddAndDrop(t *testing.T) {
	for _, k := range []api.Kinds{{Sets: []bool{false}}, {Sets: []bool{true}}} {
		for i, l := range [][]api.Event{
			{deed(1, nil, add(0, "k"), drop(0, "k")), deed(2, nil, add(0, "k")), deed(3, nil, drop(0, "k"))},
			{deed(1, nil, drop(0, "k"), add(0, "k")), deed(2, nil, add(0, "k"), drop(0, "k")), deed(3, api.Clock{1}, drop(0, "k"))},
			{deed(1, nil, add(0, "k")), deed(2, api.Clock{1}, add(0, "k"), drop(0, "k")), deed(3, api.Clock{1, 1}, add(0, "k")), deed(1, api.Clock{1}, drop(0, "k"), add(0, "k"))},
		} {
			want := asPromised(k, l)
			everyOrder(nil, l, func(order []api.Event) {
				w := nothing(k)
				for _, e := range order {
					w = do(t, k, w, e)
				}
				mustBe(t, fmt.Sprintf("%d: %v", i, order), k, w, want)
			})
		}
	}
}
