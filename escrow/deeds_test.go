package escrow

import (
	"fmt"
	"maps"
	"math/bits"
	"math/rand"
	"slices"
	"testing"

	"huckster/api"
)

// known is which deeds are known: of each one a bit.
type known uint64

func (k known) has(i int) bool { return k>>i&1 == 1 }

// all is as many deeds as n.
func all(n int) known { return 1<<n - 1 }

// deed is what a replica did, and which deeds it knew then: up by n, below 0 down; or, of a to, a move.
type deed struct {
	rep, to, n int
	key        string
	past       known
}

func (d deed) String() string { return fmt.Sprintf("%d>%d %s %d", d.rep, d.to, d.key, d.n) }

// on is accounts with the deed done to them.
func (d deed) on(t *testing.T, l []api.Account) []api.Account {
	t.Helper()
	var e api.Errno
	if d.to != 0 {
		l, e = Move(l, d.key, d.rep, d.to, d.n)
	} else {
		l, e = Up(l, d.key, d.rep, d.n)
	}
	if e != api.OK || Check(l) != api.OK {
		t.Fatalf("%v: %d", d, e)
	}
	return l
}

// play is several replicas that do things apart: all deeds, as they were done; of each replica which it knows, and its accounts.
type play struct {
	t     *testing.T
	floor int
	deeds []deed
	knows []known
	views [][]api.Account
}

func begin(t *testing.T, floor, reps int) *play {
	return &play{t: t, floor: floor, knows: make([]known, reps), views: make([][]api.Account, reps)}
}

// clone is another play that is as this one.
func (p *play) clone() *play {
	c := *p
	c.deeds, c.knows, c.views = slices.Clone(p.deeds), slices.Clone(p.knows), slices.Clone(p.views)
	return &c
}

// do lets a replica do something, if it is right there; whether it was.
func (p *play) do(d deed) bool {
	p.t.Helper()
	i := d.rep - 1
	if less := max(d.n, -d.n); d.to != 0 || d.n < 0 {
		e := May(p.views[i], d.key, d.rep, p.floor, less)
		if want := p.rights(p.knows[i], d.key, d.rep) >= less; (e == api.OK) != want || e != api.OK && e != api.ErrRights {
			p.t.Fatalf("%v: may: %d", d, e)
		}
		if e != api.OK {
			return false
		}
	}
	d.past = p.knows[i]
	p.deeds = append(p.deeds, d)
	p.hear(d.rep, len(p.deeds)-1)
	return true
}

// hear lets a replica know a deed.
func (p *play) hear(rep, i int) {
	p.t.Helper()
	p.knows[rep-1] |= 1 << i
	p.views[rep-1] = p.deeds[i].on(p.t, p.views[rep-1])
}

// unheard is the deeds that a replica does not know: inOrder, those alone of which it knows all that was known when they were done.
func (p *play) unheard(rep int, inOrder bool) []int {
	var l []int
	for i, d := range p.deeds {
		if k := p.knows[rep-1]; !k.has(i) && (!inOrder || d.past&^k == 0) {
			l = append(l, i)
		}
	}
	return l
}

// have is what all replicas have of each key by some deeds, summed without the package's functions.
func (p *play) have(k known) map[string][api.MaxReps]int {
	has := map[string][api.MaxReps]int{}
	for i, d := range p.deeds {
		if !k.has(i) {
			continue
		}
		x := has[d.key]
		if d.to != 0 {
			x[d.rep-1] -= d.n
			x[d.to-1] += d.n
		} else {
			x[d.rep-1] += d.n
		}
		has[d.key] = x
	}
	return has
}

// rights is a replica's rights by some deeds.
func (p *play) rights(k known, key string, rep int) int {
	n := p.have(k)[key][rep-1]
	if rep == 1 {
		n -= p.floor
	}
	return n
}

// accounts is what comes of some deeds, without the package's functions.
func (p *play) accounts(k known) []api.Account {
	has := p.have(k)
	var l []api.Account
	for _, key := range slices.Sorted(maps.Keys(has)) {
		l = append(l, api.Account{Key: key, Have: has[key]})
	}
	return plain(l)
}

// keys is the keys that deeds were about.
func (p *play) keys() []string {
	return slices.Sorted(maps.Keys(p.have(all(len(p.deeds)))))
}

// mustHold tells whether no replica's rights are below 0, nor a number below the floor.
func (p *play) mustHold(what string, l []api.Account) {
	p.t.Helper()
	for _, k := range p.keys() {
		for _, rep := range rightReps() {
			if n := Rights(l, k, rep, p.floor); n < 0 {
				p.t.Fatalf("%s: floor %d, %v: %s: replica %d has rights %d", what, p.floor, p.deeds, text(l), rep, n)
			}
		}
		if n := Number(l, k); n < p.floor {
			p.t.Fatalf("%s: floor %d, %v: %s: the number is %d", what, p.floor, p.deeds, text(l), n)
		}
	}
}

// mustHoldAtEach tells whether that is so at each replica, whose accounts are what the deeds that it knows say.
func (p *play) mustHoldAtEach(what string) {
	p.t.Helper()
	for i, l := range p.views {
		if want := p.accounts(p.knows[i]); text(l) != text(want) {
			p.t.Fatalf("%s: %v: replica %d has %s, want %s", what, p.deeds, i+1, text(l), text(want))
		}
		p.mustHold(fmt.Sprintf("%s, at replica %d", what, i+1), l)
	}
}

// mustHoldOfOwn tells whether no replica's own rights, by what it knows, are below 0.
func (p *play) mustHoldOfOwn(what string) {
	p.t.Helper()
	for _, k := range p.keys() {
		for i, l := range p.views {
			if n := Rights(l, k, i+1, p.floor); n < 0 {
				p.t.Fatalf("%s: floor %d, %v: replica %d has rights %d", what, p.floor, p.deeds, i+1, n)
			}
		}
	}
}

// someDeed is something that a replica might do: often as many as its rights are, or one more.
func (p *play) someDeed(r *rand.Rand) deed {
	rep := 1 + r.Intn(len(p.knows))
	key := []string{"a", "b"}[r.Intn(4)/3]
	rights := p.rights(p.knows[rep-1], key, rep)
	n := []int{1, 2, 1 + r.Intn(9), 1 + r.Intn(1000), rights, rights + 1}[r.Intn(6)]
	d := deed{rep: rep, n: min(max(n, 1), 1000), key: key}
	switch r.Intn(5) {
	case 0, 1:
		d.n = -d.n
	case 2, 3:
		d.to = 1 + r.Intn(len(p.knows))
	}
	return d
}

// step lets something be done, or heard, by some replica.
func (p *play) step(r *rand.Rand, inOrder bool) {
	p.t.Helper()
	if r.Intn(2) == 0 && len(p.deeds) < 60 {
		p.do(p.someDeed(r))
		return
	}
	rep := 1 + r.Intn(len(p.knows))
	if l := p.unheard(rep, inOrder); len(l) > 0 {
		p.hear(rep, l[r.Intn(len(l))])
	}
}

// endAlike lets all replicas know all, one deed behind the other in any order: then they have the same.
func (p *play) endAlike(r *rand.Rand, inOrder bool) {
	p.t.Helper()
	for i := range p.knows {
		for l := p.unheard(i+1, inOrder); len(l) > 0; l = p.unheard(i+1, inOrder) {
			p.hear(i+1, l[r.Intn(len(l))])
			p.mustHoldOfOwn("at the end")
		}
		if !Same(p.views[i], p.views[0]) {
			p.t.Fatalf("%v: replicas 1 and %d know the same, and have not the same", p.deeds, i+1)
		}
	}
	p.mustHoldAtEach("at the end")
}

// plays calls f with plays of 1 to 5 replicas and of several floors.
func plays(t *testing.T, seed int64, f func(*rand.Rand, *play)) {
	r := rand.New(rand.NewSource(seed))
	for range 15 {
		for _, floor := range rightFloors() {
			for _, reps := range rightReps() {
				f(r, begin(t, floor, reps))
			}
		}
	}
}

// Es3: where deeds that are right are known to others in order, late or soon, no rights are below 0 at any replica at any step, nor is the number below the floor.
func TestRightDeeds(t *testing.T) {
	plays(t, 11, func(r *rand.Rand, p *play) {
		for range 60 {
			p.step(r, true)
			p.mustHoldAtEach("in order")
		}
		p.endAlike(r, true)
	})
}

// Es3: where they are known in any order, no replica's own rights are below 0 at any step; nor is anyone's, nor the number below the floor, when all is known.
func TestRightDeedsInAnyOrder(t *testing.T) {
	plays(t, 12, func(r *rand.Rand, p *play) {
		for range 60 {
			p.step(r, false)
			p.mustHoldOfOwn("in any order")
		}
		p.endAlike(r, false)
	})
}

// closed is a set of deeds with all that was known when they were done.
func (p *play) closed(k known) known {
	for i := len(p.deeds) - 1; i >= 0; i-- {
		if k.has(i) {
			k |= p.deeds[i].past
		}
	}
	return k
}

// Es3: the same of one that does nothing of its own, and knows of the others' whatever is closed, in whatever order.
func TestWhateverIsKnown(t *testing.T) {
	plays(t, 13, func(r *rand.Rand, p *play) {
		for range 60 {
			p.step(r, true)
		}
		for range 10 {
			k := p.closed(known(r.Uint64()) & known(r.Uint64()) & known(r.Uint64()) & all(len(p.deeds)))
			var l []api.Account
			order := r.Perm(len(p.deeds))
			for done := known(0); done != k; {
				i := order[slices.IndexFunc(order, func(i int) bool { return k.has(i) && !done.has(i) && p.deeds[i].past&^done == 0 })]
				l = p.deeds[i].on(t, l)
				done |= 1 << i
				p.mustHold("whatever is known", l)
			}
			if !Same(l, p.accounts(k)) {
				t.Fatalf("%v, %b: got %s, want %s", p.deeds, k, text(l), text(p.accounts(k)))
			}
		}
	})
}

// every goes through all plays of so many steps, in each of which one replica does, or hears, something.
func every(p *play, steps int, inOrder bool, check func(*play)) {
	check(p)
	if steps == 0 {
		return
	}
	for i := range p.knows {
		rep := i + 1
		next := []deed{{rep: rep, n: 1, key: "k"}, {rep: rep, n: -1, key: "k"}}
		for to := 1; to <= len(p.knows); to++ {
			if to != rep {
				next = append(next, deed{rep: rep, to: to, n: 1, key: "k"})
			}
		}
		for _, d := range next {
			if c := p.clone(); c.do(d) {
				every(c, steps-1, inOrder, check)
			}
		}
		for _, j := range p.unheard(rep, inOrder) {
			c := p.clone()
			c.hear(rep, j)
			every(c, steps-1, inOrder, check)
		}
	}
}

// Es3: of all plays of few steps of two and of three replicas.
func TestAllFewDeeds(t *testing.T) {
	for _, c := range []struct{ floor, reps, steps int }{{0, 2, 6}, {-1, 2, 6}, {-2, 2, 5}, {0, 3, 5}, {-1, 3, 4}} {
		longest := 0
		every(begin(t, c.floor, c.reps), c.steps, true, func(p *play) {
			longest = max(longest, bits.OnesCount64(uint64(p.knows[0]|p.knows[1])))
			p.mustHoldAtEach("in order")
		})
		every(begin(t, c.floor, c.reps), c.steps, false, func(p *play) {
			p.mustHoldOfOwn("in any order")
			p.mustHold("all that was done", p.accounts(all(len(p.deeds))))
		})
		if longest != c.steps {
			t.Errorf("%+v: no play has more than %d deeds", c, longest)
		}
	}
}

// Es3: two that go down apart by all that they may meet at the floor, and not below it; neither may by one more.
func TestDownApart(t *testing.T) {
	for _, floor := range rightFloors() {
		p := begin(t, floor, 2)
		p.do(deed{rep: 1, n: 7, key: "k"})
		p.do(deed{rep: 1, to: 2, n: 3, key: "k"})
		p.hear(2, 0)
		p.hear(2, 1)
		for _, rep := range []int{1, 2} {
			for n := p.rights(p.knows[rep-1], "k", rep); n > 0; n = p.rights(p.knows[rep-1], "k", rep) {
				if n < 1000 && p.do(deed{rep: rep, n: -n - 1, key: "k"}) || !p.do(deed{rep: rep, n: -min(n, 1000), key: "k"}) {
					t.Fatalf("floor %d, replica %d, %d", floor, rep, n)
				}
			}
		}
		p.endAlike(rand.New(rand.NewSource(1)), true)
		if n := Number(p.views[0], "k"); n != floor {
			t.Errorf("floor %d: the number is %d", floor, n)
		}
	}
}

// What is not right breaks it: rights below 0, and a number below the floor, are told as they are.
func TestWrongDeeds(t *testing.T) {
	l, e := Up(nil, "k", 2, -3)
	if e != api.OK || Rights(l, "k", 2, -2) != -3 || Number(l, "k") != -3 || May(l, "k", 2, -2, 1) != api.ErrRights {
		t.Errorf("down by 3 without rights: %d, %s", e, text(l))
	}
	l, e = Move(nil, "k", 1, 2, 3)
	if e != api.OK || Rights(l, "k", 1, -2) != -1 || Rights(l, "k", 2, -2) != 3 || May(l, "k", 1, -2, 1) != api.ErrRights {
		t.Errorf("3 moved of 2: %d, %s", e, text(l))
	}
}
