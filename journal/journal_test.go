package journal

import (
	"bytes"
	"math"
	"testing"

	"huckster/api"
	"huckster/disk"
	"huckster/sum"
	"huckster/wire"
)

const (
	// last is the greatest turn.
	last = 1 << 40
	// plenty is room for all that most tests put.
	plenty = 1000
)

// fresh is a disk of no bytes.
func fresh(t *testing.T, room int) *disk.Disk {
	t.Helper()
	d, e := disk.New(room)
	if e != api.OK {
		t.Fatalf("disk.New(%d): %d", room, e)
	}
	return d
}

// laid is a disk whose slots have these bytes.
func laid(t *testing.T, room int, slots ...[]byte) *disk.Disk {
	t.Helper()
	d := fresh(t, room)
	for slot, b := range slots {
		told(t, "laying bytes", d.Append(slot, b), api.OK)
		told(t, "syncing bytes", d.Sync(slot), api.OK)
	}
	return d
}

// opened is a disk's journal, and what it has.
func opened(t *testing.T, d *disk.Disk) (*Journal, []api.Rec) {
	t.Helper()
	j, l, e := Open(d)
	if j == nil || e != api.OK {
		t.Fatalf("Open = %v, %v, %d", j, l, e)
	}
	return j, l
}

// refused fails unless Open tells an error, and nothing beside it.
func refused(t *testing.T, what string, d *disk.Disk, want api.Errno) {
	t.Helper()
	if j, l, e := Open(d); j != nil || l != nil || e != want {
		t.Errorf("Open of %s = %v, %v, %d, want %d", what, j, l, e, want)
	}
}

// told fails unless an error is the one that is wanted.
func told(t *testing.T, what string, e, want api.Errno) {
	t.Helper()
	if e != want {
		t.Errorf("%s = %d, want %d", what, e, want)
	}
}

// is fails unless a journal is of a turn, a size, and whole or broken.
func is(t *testing.T, what string, j *Journal, turn, size int, broken bool) {
	t.Helper()
	if j.Turn() != turn || j.Size() != size || j.Broken() != broken {
		t.Errorf("%s: Turn %d, Size %d, Broken %v, want %d, %d, %v", what, j.Turn(), j.Size(), j.Broken(), turn, size, broken)
	}
}

// has fails unless these are the records that are wanted.
func has(t *testing.T, what string, l []api.Rec, want ...api.Rec) {
	t.Helper()
	if !alike(l, want) {
		t.Errorf("%s has %v, want %v", what, l, want)
	}
}

// alike tells whether records are the same.
func alike(a, b []api.Rec) bool {
	if len(a) != len(b) {
		return false
	}
	for i := range a {
		if a[i].Kind != b[i].Kind || !bytes.Equal(a[i].Body, b[i].Body) {
			return false
		}
	}
	return true
}

// onDisk fails unless a living disk's slots have these bytes.
func onDisk(t *testing.T, what string, d *disk.Disk, want ...[]byte) {
	t.Helper()
	for slot, w := range want {
		if b, e := d.Read(slot); e != api.OK || !bytes.Equal(b, w) {
			t.Errorf("%s: slot %d has %v, %d, want %v", what, slot, b, e, w)
		}
	}
}

// onDead is onDisk of a disk that may be dead.
func onDead(t *testing.T, what string, d *disk.Disk, want ...[]byte) {
	t.Helper()
	c := d.Clone()
	c.Crash([]int{math.MaxInt, math.MaxInt})
	onDisk(t, what, c, want...)
}

// rec is a record of a kind and a text.
func rec(kind int, body string) api.Rec { return api.Rec{Kind: kind, Body: []byte(body)} }

// join is bytes one behind the other.
func join(parts ...[]byte) []byte { return bytes.Join(parts, nil) }

// raw is a record's bytes by the words of layer 2, whatever its kind.
func raw(kind int, body []byte) []byte {
	b := join([]byte{byte(kind)}, wire.Text(body))
	s := sum.Of(b)
	return append(b, byte(s>>24), byte(s>>16), byte(s>>8), byte(s))
}

// top is the record of a turn.
func top(turn uint64) []byte { return raw(1, wire.Num(turn)) }

// end is the record of Kind 2.
func end() []byte { return raw(2, nil) }

// all is records' bytes.
func all(l ...api.Rec) []byte {
	var b []byte
	for _, r := range l {
		b = append(b, raw(r.Kind, r.Body)...)
	}
	return b
}

// slotOf is a whole slot's bytes.
func slotOf(turn uint64, l ...api.Rec) []byte { return join(top(turn), all(l...), end()) }

var (
	recA = rec(10, "a")
	recB = rec(11, "")
	recC = rec(200, "cc")
)

// Jo2: the chapter's example.
func TestExample(t *testing.T) {
	d := fresh(t, plenty)
	j, l := opened(t, d)
	has(t, "a new one", l)
	told(t, "Put", j.Put(recA, recB), api.OK)
	_, l = opened(t, d)
	has(t, "opened again, it", l, recA, recB)
}

// Jo1: no disk, one that New did not give, and dead ones.
func TestOpenRefused(t *testing.T) {
	refused(t, "no disk", nil, api.ErrArg)
	refused(t, "a disk that New did not give", &disk.Disk{}, api.ErrDead)
	d := laid(t, plenty, slotOf(1, recA))
	d.Stop(0)
	refused(t, "a dead disk", d, api.ErrDead)
	d.Crash(nil)
	_, l := opened(t, d)
	has(t, "a disk that lives again", l, recA)
}

// Jo1: a disk of no bytes, also of no room, has nothing, and is not turned.
func TestOpenOfNoBytes(t *testing.T) {
	for _, room := range []int{0, 1, plenty} {
		d := fresh(t, room)
		d.Stop(1)
		j, l := opened(t, d)
		has(t, "a disk of no bytes", l)
		is(t, "of a disk of no bytes", j, 0, 0, false)
		if d.Dead() {
			t.Error("Open did an act")
		}
	}
}

// noneWhole are slots that are not whole.
func noneWhole() map[string][]byte {
	return map[string][]byte{
		"nothing":                       {},
		"a nought":                      {0},
		"bytes that are no records":     []byte("no records at all"),
		"turn 0":                        slotOf(0, recA),
		"turn 2^40 + 1":                 slotOf(last+1, recA),
		"turn 2^64 - 1":                 slotOf(math.MaxUint64, recA),
		"a turn of no bytes":            join(raw(1, nil), all(recA), end()),
		"a turn that is no number":      join(raw(1, []byte{9, 1}), all(recA), end()),
		"a turn with a nought ahead":    join(raw(1, []byte{2, 0, 1}), all(recA), end()),
		"a turn that ends within":       join(raw(1, []byte{2, 1}), all(recA), end()),
		"a turn with a byte behind":     join(raw(1, []byte{1, 1, 0}), all(recA), end()),
		"no turn":                       join(all(recA), end()),
		"an end alone":                  end(),
		"a turn of Kind 2":              join(raw(2, wire.Num(1)), all(recA), end()),
		"a turn of Kind 10":             join(raw(10, wire.Num(1)), all(recA), end()),
		"a turn behind a byte":          join([]byte{0}, slotOf(1, recA)),
		"a turn whose sum is wrong":     join(spoilt(top(1)), all(recA), end()),
		"a turn alone":                  top(1),
		"no record of Kind 2":           join(top(1), all(recA, recB)),
		"a torn record of Kind 2":       join(top(1), all(recA), end()[:5]),
		"a Kind 2 whose sum is wrong":   join(top(1), all(recA), spoilt(end())),
		"a Kind 2 with a body":          join(top(1), all(recA), raw(2, []byte{0})),
		"a Kind 3 for the end":          join(top(1), all(recA), raw(3, nil)),
		"a Kind 1 for the end":          join(top(1), all(recA), raw(1, nil)),
		"two turns":                     join(top(1), top(1), all(recA), end()),
		"a Kind 9 ahead of the end":     join(top(1), all(recA), raw(9, nil), end()),
		"a Kind 201 ahead of the end":   join(top(1), all(recA), raw(201, nil), end()),
		"a Kind 0 ahead of the end":     join(top(1), all(recA), raw(0, nil), end()),
		"a body of 2^16 + 1 bytes":      join(top(1), raw(10, make([]byte, api.MaxBytes+1)), end()),
		"a wrong sum ahead of the end":  join(top(1), spoilt(all(recA)), end()),
		"a byte ahead of the end":       join(top(1), all(recA), []byte{10}, end()),
		"a Kind 9 for the first record": join(top(1), raw(9, []byte("a")), end()),
	}
}

// spoilt is bytes whose last one is another.
func spoilt(b []byte) []byte {
	out := bytes.Clone(b)
	out[len(out)-1] ^= 1
	return out
}

// Jo1: where neither slot is whole, it has nothing, its turn is 0, and no act is done; the first Put goes to slot 0.
func TestOpenOfNoneWhole(t *testing.T) {
	const room = 1 << 18
	for name, b := range noneWhole() {
		for _, slots := range [][][]byte{{b, nil}, {nil, b}, {b, b}} {
			d := laid(t, room, slots...)
			d.Stop(1)
			j, l := opened(t, d)
			has(t, name, l)
			is(t, name, j, 0, 0, false)
			d.Stop(-1)
			onDisk(t, name, d, slots...)
			told(t, name+": Put", j.Put(recB), api.OK)
			onDisk(t, name+", behind Put", d, slotOf(1, recB), slots[1])
			is(t, name+", behind Put", j, 1, len(slotOf(1, recB)), false)
			k, l := opened(t, d)
			has(t, name+", opened again", l, recB)
			is(t, name+", opened again", k, 1, len(slotOf(1, recB)), false)
		}
	}
}

// Jo1: where one slot is whole, that is its slot, wherever it stands, and whatever stands in the other one; no act is done.
func TestOpenOfOneWhole(t *testing.T) {
	for name, b := range noneWhole() {
		for _, turn := range []uint64{1, 2, 255, 256, last - 1, last} {
			w := slotOf(turn, recA, recC)
			for _, slots := range [][][]byte{{w, b}, {b, w}} {
				d := laid(t, 1<<18, slots...)
				d.Stop(1)
				j, l := opened(t, d)
				has(t, "beside "+name, l, recA, recC)
				is(t, "beside "+name, j, int(turn), len(w), false)
				d.Stop(-1)
				onDisk(t, "beside "+name, d, slots...)
			}
		}
	}
}

// Jo1: of two whole slots it is the one of the greater turn, of equal ones 0.
func TestOpenOfBothWhole(t *testing.T) {
	turns := []uint64{1, 2, 9, 10, 255, 256, 1 << 32, last - 1, last}
	for _, a := range turns {
		for _, b := range turns {
			d := laid(t, plenty, slotOf(a, recA), slotOf(b, recB, recC))
			j, l := opened(t, d)
			if a >= b {
				has(t, "slot 0", l, recA)
				is(t, "slot 0", j, int(a), len(slotOf(a, recA)), false)
			} else {
				has(t, "slot 1", l, recB, recC)
				is(t, "slot 1", j, int(b), len(slotOf(b, recB, recC)), false)
			}
			onDisk(t, "both whole", d, slotOf(a, recA), slotOf(b, recB, recC))
		}
	}
}

// Jo1: of equal turns the other slot is 1: the journal is renewed there.
func TestRenewOfEqualTurns(t *testing.T) {
	d := laid(t, plenty, slotOf(3, recA), slotOf(3, recB))
	j, _ := opened(t, d)
	told(t, "Renew", j.Renew(recC), api.OK)
	onDisk(t, "renewed", d, slotOf(3, recA), slotOf(4, recC))
}

// Jo1: it has what stands ahead of the record of Kind 2, and behind it, of Kinds 10 to 200.
func TestWhatItHas(t *testing.T) {
	low, high := rec(10, "low"), rec(200, "high")
	big := api.Rec{Kind: 77, Body: bytes.Repeat([]byte{7}, api.MaxBytes)}
	lists := [][]api.Rec{nil, {low}, {high}, {low, high}, {high, low, low}, {big}, {low, big, high}}
	for _, ahead := range lists {
		for _, behind := range lists {
			b := join(slotOf(7, ahead...), all(behind...))
			d := laid(t, 1<<19, b)
			d.Stop(1)
			j, l := opened(t, d)
			has(t, "a slot", l, append(append([]api.Rec(nil), ahead...), behind...)...)
			is(t, "a slot", j, 7, len(b), false)
			if d.Dead() {
				t.Error("Open did an act")
			}
		}
	}
}

// torn are bytes that no records of Kinds 10 to 200 begin with.
func torn() map[string][]byte {
	return map[string][]byte{
		"a byte":            {10},
		"a nought":          {0},
		"a Kind 201":        raw(201, []byte("x")),
		"a Kind 255":        raw(255, nil),
		"a Kind 9":          raw(9, []byte("x")),
		"a Kind 3":          raw(3, nil),
		"a turn":            top(1),
		"an end":            end(),
		"a whole slot":      slotOf(9, recA),
		"a torn record":     all(recC)[:len(all(recC))-1],
		"a wrong sum":       spoilt(all(recC)),
		"too great a body":  raw(10, make([]byte, api.MaxBytes+1)),
		"records behind":    join([]byte{0}, all(recA, recC)),
		"records behind it": join(raw(9, nil), all(recA, recC)),
	}
}

// Jo1: where something stands behind what it has, it is renewed with what it has, first.
func TestOpenRenews(t *testing.T) {
	for name, junk := range torn() {
		for _, behind := range [][]api.Rec{nil, {recC}} {
			want := append([]api.Rec{recA, recB}, behind...)
			b := join(slotOf(5, recA, recB), all(behind...), junk)
			fine := slotOf(6, want...)
			d := laid(t, 1<<18, b, slotOf(4, recC))
			d.Stop(4)
			j, l := opened(t, d)
			has(t, name, l, want...)
			is(t, name, j, 6, len(fine), false)
			onDisk(t, name, d, b, fine)
			told(t, name+": the act that is left", d.Append(0, nil), api.OK)
			if !d.Dead() {
				t.Error(name, ": Open did fewer than three acts")
			}
			d.Crash(nil)
			_, l = opened(t, d)
			has(t, name+", behind a crash", l, want...)

			d = laid(t, 1<<18, []byte("no record"), b)
			j, l = opened(t, d)
			has(t, name, l, want...)
			is(t, name, j, 6, len(fine), false)
			onDisk(t, name, d, fine, b)
		}
	}
}

// Jo1: what is behind in the slot that is not its slot, or in one that has nothing, is another thing.
func TestOpenRenewsItsSlotAlone(t *testing.T) {
	b := join(slotOf(4, recC), []byte{0})
	d := laid(t, plenty, b, slotOf(5, recA))
	j, l := opened(t, d)
	has(t, "slot 1", l, recA)
	is(t, "slot 1", j, 5, len(slotOf(5, recA)), false)
	onDisk(t, "slot 1", d, b, slotOf(5, recA))

	d = laid(t, plenty, join(slotOf(1), []byte{0}))
	j, l = opened(t, d)
	has(t, "a slot of no records", l)
	is(t, "a slot of no records", j, 2, len(slotOf(2)), false)
}

// Jo1: Renew's error, when it is to be renewed: no room, no turn, a disk that dies.
func TestOpenCannotRenew(t *testing.T) {
	b := join(slotOf(5, recA, recB), []byte{0})
	want := len(slotOf(6, recA, recB))
	d := laid(t, len(b)+want, b)
	j, _ := opened(t, d)
	is(t, "with just as much room", j, 6, want, false)

	d = laid(t, len(b)+want-1, b, []byte("other"))
	refused(t, "a disk with less room", d, api.ErrFull)
	onDisk(t, "with less room", d, b, nil)

	d = laid(t, plenty, join(slotOf(last, recA), []byte{0}), slotOf(1))
	refused(t, "a disk of the last turn", d, api.ErrFull)
	onDisk(t, "of the last turn", d, join(slotOf(last, recA), []byte{0}), slotOf(1))

	d = laid(t, plenty, join(slotOf(last-1, recA), []byte{0}))
	j, l := opened(t, d)
	has(t, "up to the last turn", l, recA)
	is(t, "up to the last turn", j, last, len(slotOf(last, recA)), false)

	for acts := 1; acts < 3; acts++ {
		d = laid(t, plenty, b, []byte("other"))
		d.Stop(acts)
		refused(t, "a disk that dies", d, api.ErrDead)
		d.Crash(nil)
		_, l = opened(t, d)
		has(t, "behind the crash", l, recA, recB)
	}
	d = laid(t, plenty, b)
	d.Stop(3)
	j, l = opened(t, d)
	has(t, "with just as many acts", l, recA, recB)
	is(t, "with just as many acts", j, 6, want, false)
}

// Jo2: the first Put renews, of whichever records; those behind are appended, each Put by one act, not safe; of none nothing is done.
func TestPut(t *testing.T) {
	for _, first := range [][]api.Rec{nil, {recA}, {recA, recB, recC}} {
		d := fresh(t, plenty)
		j, _ := opened(t, d)
		d.Stop(4)
		told(t, "the first Put", j.Put(first...), api.OK)
		b := slotOf(1, first...)
		onDisk(t, "the first Put", d, b, nil)
		is(t, "the first Put", j, 1, len(b), false)
		told(t, "Put of none", j.Put(), api.OK)
		onDisk(t, "Put of none", d, b, nil)
		told(t, "Put of three", j.Put(recC, recB, recA), api.OK)
		if !d.Dead() {
			t.Error("the Puts did fewer than four acts")
		}
		told(t, "Put of none, on a dead disk", j.Put(), api.OK)
		b = join(b, all(recC, recB, recA))
		onDead(t, "Put of three", d, b, nil)
		is(t, "Put of three", j, 1, len(b), false)
		d.Crash(nil)
		onDisk(t, "behind a crash", d, slotOf(1, first...), nil)
	}
}

// wrong are records that may not be.
func wrong() []api.Rec {
	return []api.Rec{
		{}, {Kind: -1}, {Kind: 1}, {Kind: 2}, {Kind: 9, Body: []byte("x")}, {Kind: 201, Body: []byte("x")},
		{Kind: 256 + 10}, {Kind: 1<<32 + 10}, {Kind: math.MinInt}, {Kind: math.MaxInt},
		{Kind: 10, Body: make([]byte, api.MaxBytes+1)},
		{Kind: 200, Body: make([]byte, 1<<20)},
	}
}

// Jo2: records that may not be, alone and among others, at turn 0 and behind it; nothing is done.
func TestWrongRecords(t *testing.T) {
	for _, w := range wrong() {
		for _, l := range [][]api.Rec{{w}, {w, recA}, {recA, w}, {recA, w, recB}} {
			d := laid(t, plenty, nil, []byte("other"))
			j, _ := opened(t, d)
			told(t, "Put at turn 0", j.Put(l...), api.ErrArg)
			told(t, "Renew at turn 0", j.Renew(l...), api.ErrArg)
			is(t, "at turn 0", j, 0, 0, false)
			onDisk(t, "at turn 0", d, nil, []byte("other"))

			b := slotOf(1, recC)
			d = laid(t, len(b), b)
			j, _ = opened(t, d)
			told(t, "Put", j.Put(l...), api.ErrArg)
			told(t, "Renew", j.Renew(l...), api.ErrArg)
			onDisk(t, "wrong records", d, b, nil)
			d.Stop(0)
			told(t, "Put on a dead disk", j.Put(l...), api.ErrArg)
			told(t, "Renew on a dead disk", j.Renew(l...), api.ErrArg)
			is(t, "wrong records", j, 1, len(b), false)

			d = laid(t, plenty, slotOf(last))
			j, _ = opened(t, d)
			told(t, "Renew at the last turn", j.Renew(l...), api.ErrArg)
		}
	}
}

// Jo2: Kinds 10 and 200, and bodies up to 2^16 bytes, may be, in Put at turn 0 and behind it, and in Renew.
func TestRecordsThatMayBe(t *testing.T) {
	for _, kind := range []int{10, 11, 128, 199, 200} {
		for _, size := range []int{0, 1, 255, 256, api.MaxBytes - 1, api.MaxBytes} {
			r := api.Rec{Kind: kind, Body: bytes.Repeat([]byte{byte(kind)}, size)}
			d := fresh(t, 1<<19)
			j, _ := opened(t, d)
			told(t, "the first Put", j.Put(r), api.OK)
			told(t, "Put", j.Put(r, r), api.OK)
			_, l := opened(t, d)
			has(t, "put", l, r, r, r)
			told(t, "Renew", j.Renew(r, r), api.OK)
			_, l = opened(t, d)
			has(t, "renewed", l, r, r)
		}
	}
}

// Jo2: Put with just as much room as it wants, and with less, at turn 0 and behind it.
func TestPutRoom(t *testing.T) {
	b := slotOf(1, recA, recB)
	d := fresh(t, len(b))
	j, _ := opened(t, d)
	told(t, "the first Put", j.Put(recA, recB), api.OK)
	onDisk(t, "the first Put", d, b, nil)

	d = laid(t, len(b)-1, []byte("junk"))
	j, _ = opened(t, d)
	told(t, "the first Put, with less room", j.Put(recA, recB), api.ErrFull)
	is(t, "the first Put, with less room", j, 0, 0, false)
	onDisk(t, "the first Put, with less room", d, nil, nil)
	told(t, "a smaller one", j.Put(recA), api.OK)
	is(t, "a smaller one", j, 1, len(slotOf(1, recA)), false)

	more := all(recC, recA)
	d = laid(t, len(b)+len(more), b)
	j, _ = opened(t, d)
	told(t, "Put", j.Put(recC, recA), api.OK)
	is(t, "Put", j, 1, len(b)+len(more), false)
	told(t, "Put of no room", j.Put(recB), api.ErrFull)
	told(t, "Put of none", j.Put(), api.OK)
	onDisk(t, "Put of no room", d, join(b, more), nil)

	d = laid(t, len(b)+len(more)-1, b)
	j, _ = opened(t, d)
	told(t, "Put with less room", j.Put(recC, recA), api.ErrFull)
	onDisk(t, "Put with less room", d, b, nil)
	is(t, "Put with less room", j, 1, len(b), false)
	told(t, "a smaller Put", j.Put(recC), api.OK)
	onDisk(t, "a smaller Put", d, join(b, all(recC)), nil)
}

// Jo2: Put on a dead disk: behind turn 0 nothing is put, and it is not broken; at turn 0 it is renewed, and broken.
func TestPutOnDead(t *testing.T) {
	b := slotOf(1, recA)
	d := laid(t, plenty, b)
	j, _ := opened(t, d)
	d.Stop(0)
	told(t, "Put", j.Put(recB), api.ErrDead)
	is(t, "Put", j, 1, len(b), false)
	told(t, "Put again", j.Put(recB), api.ErrDead)
	told(t, "Sync", j.Sync(), api.ErrDead)
	is(t, "Sync", j, 1, len(b), false)
	onDead(t, "Put", d, b, nil)

	for acts := range 3 {
		d = fresh(t, plenty)
		j, _ = opened(t, d)
		d.Stop(acts)
		told(t, "the first Put", j.Put(recB), api.ErrDead)
		is(t, "the first Put", j, 0, 0, true)
	}
	d = fresh(t, plenty)
	j, _ = opened(t, d)
	d.Stop(3)
	told(t, "the first Put, with just as many acts", j.Put(recB), api.OK)
	is(t, "the first Put, with just as many acts", j, 1, len(slotOf(1, recB)), false)
}

// Jo2: Sync does nothing at turn 0, and one act behind it, on its slot alone.
func TestSync(t *testing.T) {
	d := fresh(t, plenty)
	j, _ := opened(t, d)
	d.Stop(1)
	told(t, "Sync at turn 0", j.Sync(), api.OK)
	if d.Dead() {
		t.Error("Sync at turn 0 did an act")
	}
	d.Stop(0)
	told(t, "Sync at turn 0, on a dead disk", j.Sync(), api.OK)
	is(t, "Sync at turn 0, on a dead disk", j, 0, 0, false)

	for _, slot := range []int{0, 1} {
		slots := [][]byte{slotOf(1), slotOf(1)}
		slots[slot] = slotOf(2, recA)
		d = laid(t, plenty, slots...)
		j, _ = opened(t, d)
		told(t, "Put", j.Put(recB), api.OK)
		told(t, "a byte in the other one", d.Append(1-slot, []byte{0}), api.OK)
		d.Stop(1)
		told(t, "Sync", j.Sync(), api.OK)
		if !d.Dead() {
			t.Error("Sync did no act")
		}
		is(t, "Sync", j, 2, len(slotOf(2, recA, recB)), false)
		d.Crash(nil)
		slots[slot] = join(slotOf(2, recA), all(recB))
		onDisk(t, "Sync", d, slots...)
	}
}

// Jo2: Renew clears the other slot, appends once, and syncs; that is its slot and its turn then, and goes to and fro.
func TestRenew(t *testing.T) {
	d := laid(t, plenty, []byte("junk"), nil)
	j, _ := opened(t, d)
	want := [2][]byte{[]byte("junk"), nil}
	for i, l := range [][]api.Rec{nil, {recA}, {recB, recC}, nil, {recC, recC, recA}, {recA}} {
		d.Stop(4)
		told(t, "Renew", j.Renew(l...), api.OK)
		want[i%2] = slotOf(uint64(i+1), l...)
		is(t, "Renew", j, i+1, len(want[i%2]), false)
		onDisk(t, "Renew", d, want[0], want[1])
		told(t, "the act that is left", j.Put(recB), api.OK)
		if !d.Dead() {
			t.Error("Renew did fewer than three acts")
		}
		is(t, "Put", j, i+1, len(want[i%2])+len(all(recB)), false)
		d.Crash(nil)
		onDisk(t, "behind a crash", d, want[0], want[1])
		k, got := opened(t, d)
		has(t, "opened again, it", got, l...)
		is(t, "opened again", k, i+1, len(want[i%2]), false)
	}
}

// Jo2: Renew without room: it is as it was, but for the other slot, and goes on.
func TestRenewWithoutRoom(t *testing.T) {
	b, other := slotOf(2, recA), slotOf(1, recC)
	want := slotOf(3, recB, recC)
	d := laid(t, len(b)+len(want), b, other)
	j, _ := opened(t, d)
	told(t, "Renew with just as much room", j.Renew(recB, recC), api.OK)
	onDisk(t, "Renew with just as much room", d, b, want)
	is(t, "Renew with just as much room", j, 3, len(want), false)

	d = laid(t, len(b)+len(want)-1, b, other)
	j, _ = opened(t, d)
	told(t, "Renew with less room", j.Renew(recB, recC), api.ErrFull)
	onDisk(t, "Renew with less room", d, b, nil)
	is(t, "Renew with less room", j, 2, len(b), false)
	told(t, "Put", j.Put(recB), api.OK)
	told(t, "Sync", j.Sync(), api.OK)
	d.Crash(nil)
	k, l := opened(t, d)
	has(t, "it goes on and", l, recA, recB)
	is(t, "it goes on", k, 2, len(b)+len(all(recB)), false)
	told(t, "a smaller Renew", j.Renew(), api.OK)
	is(t, "a smaller Renew", j, 3, len(slotOf(3)), false)

	d = fresh(t, len(slotOf(1))-1)
	j, _ = opened(t, d)
	told(t, "Renew at turn 0", j.Renew(), api.ErrFull)
	is(t, "Renew at turn 0", j, 0, 0, false)
}

// Jo2: at turn 2^40 there is no further one, and nothing is done, also on a dead disk; records are put as ever.
func TestLastTurn(t *testing.T) {
	b := slotOf(last, recA)
	d := laid(t, plenty, b, slotOf(1, recC))
	j, _ := opened(t, d)
	told(t, "Renew", j.Renew(recB), api.ErrFull)
	told(t, "Renew with none", j.Renew(), api.ErrFull)
	onDisk(t, "Renew", d, b, slotOf(1, recC))
	is(t, "Renew", j, last, len(b), false)
	told(t, "Put", j.Put(recB), api.OK)
	told(t, "Sync", j.Sync(), api.OK)
	onDisk(t, "Put", d, join(b, all(recB)), slotOf(1, recC))
	d.Stop(0)
	told(t, "Renew on a dead disk", j.Renew(recB), api.ErrFull)
	is(t, "Renew on a dead disk", j, last, len(b)+len(all(recB)), false)

	d = laid(t, plenty, slotOf(last-1, recA))
	j, _ = opened(t, d)
	told(t, "Renew to the last turn", j.Renew(recB), api.OK)
	is(t, "Renew to the last turn", j, last, len(slotOf(last, recB)), false)
	_, l := opened(t, d)
	has(t, "of the last turn, it", l, recB)
}

// Jo2: a Renew on a disk that dies at one of its acts leaves it as it was, but broken; a broken one refuses all, ahead of all else, and for good.
func TestBroken(t *testing.T) {
	b, other := join(slotOf(2, recA), all(recB)), slotOf(1, recC)
	fine := slotOf(3, recC)
	left := [][][]byte{{b, other}, {b, nil}, {b, fine}}
	for acts, want := range left {
		d := laid(t, plenty, b, other)
		j, _ := opened(t, d)
		d.Stop(acts)
		told(t, "Renew", j.Renew(recC), api.ErrDead)
		is(t, "Renew", j, 2, len(b), true)
		onDead(t, "Renew", d, want...)
		for range 2 {
			for _, l := range [][]api.Rec{nil, {recA}, {{}}, {recA, {Kind: 9}}} {
				told(t, "Put of a broken one", j.Put(l...), api.ErrState)
				told(t, "Renew of a broken one", j.Renew(l...), api.ErrState)
			}
			told(t, "Sync of a broken one", j.Sync(), api.ErrState)
			is(t, "a broken one", j, 2, len(b), true)
			d.Crash([]int{0, math.MaxInt})
			onDisk(t, "a broken one", d, want...)
		}
		k, l := opened(t, d)
		if acts == 2 {
			has(t, "opened again, it", l, recC)
			is(t, "opened again", k, 3, len(fine), false)
		} else {
			has(t, "opened again, it", l, recA, recB)
			is(t, "opened again", k, 2, len(b), false)
		}
	}
	d := laid(t, plenty, b, other)
	j, _ := opened(t, d)
	d.Stop(3)
	told(t, "Renew with just as many acts", j.Renew(recC), api.OK)
	is(t, "Renew with just as many acts", j, 3, len(fine), false)
	told(t, "Renew behind it", j.Renew(recC), api.ErrDead)
	is(t, "Renew behind it", j, 3, len(fine), true)
}

// Jo2: Size is what its slot has on the disk, dead or not, whatever a crash took.
func TestSizeIsOfTheDisk(t *testing.T) {
	d := fresh(t, plenty)
	j, _ := opened(t, d)
	told(t, "Put", j.Put(recA), api.OK)
	told(t, "Put", j.Put(recB), api.OK)
	b := slotOf(1, recA)
	is(t, "put", j, 1, len(b)+len(all(recB)), false)
	d.Stop(0)
	is(t, "on a dead disk", j, 1, len(b)+len(all(recB)), false)
	d.Crash([]int{3})
	is(t, "behind a crash", j, 1, len(b)+3, false)
	d.Stop(0)
	is(t, "on a dead disk, asked again", j, 1, len(b)+3, false)
	if !d.Dead() {
		t.Error("Size turned the disk")
	}
}

// R3: what is handed in is not written to; what is told, and what was handed in, may be changed afterwards.
func TestNothingShared(t *testing.T) {
	d := fresh(t, plenty)
	j, _ := opened(t, d)
	l := []api.Rec{rec(10, "one"), rec(11, "two")}
	use := func(what string, f func(...api.Rec) api.Errno) {
		told(t, what, f(l...), api.OK)
		has(t, "what is handed in, by "+what+", it", l, rec(10, "one"), rec(11, "two"))
		l[0].Body[0], l[1].Kind = 'X', 99
		_, got := opened(t, d)
		has(t, what, got[len(got)-2:], rec(10, "one"), rec(11, "two"))
		l[0].Body[0], l[1].Kind = 'o', 11
	}
	use("Put at turn 0", j.Put)
	use("Put", j.Put)
	use("Renew", j.Renew)
	told(t, "a torn byte", d.Append(1, []byte{0}), api.OK)
	_, got := opened(t, d)
	for i := range got {
		got[i].Kind = 33
		got[i].Body[0] = 'X'
	}
	got = append(got[:0], rec(44, "other"))
	_, got = opened(t, d)
	has(t, "told, and opened again, it", got, rec(10, "one"), rec(11, "two"))
	_ = append(got[0].Body, "behind"...)
	has(t, "with a body that is longer, it", got, rec(10, "one"), rec(11, "two"))
}

// A Journal that Open did not give, and none at all.
func TestNobodys(t *testing.T) {
	for _, j := range []*Journal{nil, {}, new(Journal)} {
		for _, l := range [][]api.Rec{nil, {recA}, {{}}} {
			told(t, "Put", j.Put(l...), api.ErrState)
			told(t, "Renew", j.Renew(l...), api.ErrState)
		}
		told(t, "Sync", j.Sync(), api.ErrState)
		is(t, "nobody's", j, 0, 0, true)
	}
}

// step is something that is done to a journal.
type step struct {
	does func(j *Journal) api.Errno
	puts []api.Rec
	// renews tells whether puts take the place of all else.
	renews bool
	syncs  bool
}

// put, renew and sync are steps.
func put(l ...api.Rec) step {
	return step{does: func(j *Journal) api.Errno { return j.Put(l...) }, puts: l}
}

func renew(l ...api.Rec) step {
	return step{does: func(j *Journal) api.Errno { return j.Renew(l...) }, puts: l, renews: true}
}

func syncs() step { return step{does: (*Journal).Sync, syncs: true} }

// history is what a journal may have behind a crash: what it had, the first ones of it that are safe, and what it may have been renewed with.
type history struct {
	had   []api.Rec
	safe  int
	maybe []api.Rec
	try   bool
	turn  int
}

// done goes on by a step that was done, or was given up.
func (h *history) done(s step, e api.Errno) {
	renews := s.renews || !s.syncs && h.turn == 0
	switch {
	case renews && e == api.OK:
		h.had, h.safe, h.turn = s.puts, len(s.puts), h.turn+1
	case renews && e == api.ErrDead && !h.try:
		h.maybe, h.try = s.puts, true
	case e != api.OK:
	case s.syncs:
		h.safe = len(h.had)
	default:
		h.had = append(append([]api.Rec(nil), h.had...), s.puts...)
	}
}

// may tells whether records may be what it has behind a crash.
func (h *history) may(l []api.Rec) bool {
	if h.try && alike(l, h.maybe) {
		return true
	}
	return len(l) >= h.safe && len(l) <= len(h.had) && alike(l, h.had[:len(l)])
}

// runs are steps of a journal, one behind the other.
func runs() [][]step {
	a, b, c, d := rec(10, "a"), rec(11, "bb"), rec(12, ""), rec(200, "dddd")
	return [][]step{
		{put(a), put(b, c), put(d)},
		{put(a, b), syncs(), put(c), put(d), syncs(), put(a)},
		{put(a), put(b), renew(c, d), put(a), syncs(), put(b)},
		{renew(a), put(b), syncs(), renew(), put(c), renew(d, d), put(a), put(b)},
		{put(), syncs(), put(a), renew(b), renew(c), renew(d), put(a, a)},
		{syncs(), put(a), put(b), syncs(), put(c), renew(a, c), syncs(), put(d), syncs()},
	}
}

// played is a disk on which steps are done, up to a number of acts, and what it may have behind a crash.
func played(t *testing.T, run []step, acts int) (*disk.Disk, *history) {
	t.Helper()
	d := fresh(t, plenty)
	j, _ := opened(t, d)
	d.Stop(acts)
	h := &history{}
	for _, s := range run {
		h.done(s, s.does(j))
	}
	return d, h
}

// Jo3: opened again behind each step, it has what it had.
func TestOpenedAgain(t *testing.T) {
	for _, run := range runs() {
		d := fresh(t, plenty)
		j, _ := opened(t, d)
		h := &history{}
		for i, s := range run {
			e := s.does(j)
			told(t, "a step", e, api.OK)
			h.done(s, e)
			k, l := opened(t, d)
			has(t, "opened again, it", l, h.had...)
			is(t, "opened again", k, j.Turn(), j.Size(), false)
			if i%2 == 0 {
				j = k
			}
		}
	}
}

// Jo3: behind a crash at each act, whatever stays, it has what it was renewed with last, or ahead of that, and the first ones of what was put: all that was synced, at least; and it goes on.
func TestCrashes(t *testing.T) {
	for _, run := range runs() {
		for acts := range 30 {
			d, h := played(t, run, acts)
			for kept := range 60 {
				for _, keep := range [][]int{{kept}, {0, kept}, {kept, kept}, {math.MaxInt, kept}, {kept, math.MaxInt}} {
					crashed(t, d.Clone(), h, keep)
				}
			}
		}
	}
}

// crashed fails unless a disk behind a crash has what it may, and goes on.
func crashed(t *testing.T, d *disk.Disk, h *history, keep []int) {
	t.Helper()
	d.Crash(keep)
	j, l := opened(t, d)
	if !h.may(l) {
		t.Fatalf("kept %v: it has %v; had %v, safe %d, or %v", keep, l, h.had, h.safe, h.maybe)
	}
	more := rec(50, "more")
	told(t, "Put behind a crash", j.Put(more), api.OK)
	told(t, "Sync behind a crash", j.Sync(), api.OK)
	d.Crash(nil)
	_, again := opened(t, d)
	has(t, "behind another crash, it", again, append(l, more)...)
}

// Jo3: with nothing kept it has just what is safe, with all kept all that was put.
func TestCrashKeepsNoneOrAll(t *testing.T) {
	for _, run := range runs() {
		d, h := played(t, run, -1)
		none := d.Clone()
		none.Crash(nil)
		_, l := opened(t, none)
		has(t, "with nothing kept, it", l, h.had[:h.safe]...)
		d.Crash([]int{math.MaxInt, math.MaxInt})
		_, l = opened(t, d)
		has(t, "with all kept, it", l, h.had...)
	}
}

// P1: whatever bytes stand on a disk, Open ends, and what it tells is told again.
func TestAnyBytes(t *testing.T) {
	w := join(slotOf(2, recA), all(recC))
	for at := range w {
		for _, x := range []byte{1, 2, 8, 128, 255} {
			b := bytes.Clone(w)
			b[at] ^= x
			d := laid(t, plenty, b, slotOf(1, recB))
			_, l := opened(t, d)
			switch {
			case at < len(slotOf(2, recA)):
				has(t, "with a spoilt slot, it", l, recB)
			default:
				has(t, "with something spoilt behind, it", l, recA)
			}
			_, again := opened(t, d)
			has(t, "opened again, it", again, l...)
		}
		d := laid(t, plenty, w[:at], slotOf(1, recB))
		_, l := opened(t, d)
		if at < len(slotOf(2, recA)) {
			has(t, "with a torn slot, it", l, recB)
		} else {
			has(t, "with something torn behind, it", l, recA)
		}
	}
}
