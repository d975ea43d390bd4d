package disk

import (
	"bytes"
	"math"
	"slices"
	"testing"

	"huckster/api"
)

// most is for how many bytes there is room at most.
const most = 1 << 20

// noSlots are numbers of which there is no slot.
var noSlots = []int{-1, 2, 3, math.MinInt, math.MaxInt, 1 << 32, 1<<32 + 1, -1 << 32}

// fresh is a disk that New gives.
func fresh(t *testing.T, room int) *Disk {
	t.Helper()
	d, e := New(room)
	if d == nil || e != api.OK {
		t.Fatalf("New(%d) = %v, %d", room, d, e)
	}
	return d
}

// ok fails unless an act was done.
func ok(t *testing.T, e api.Errno) {
	t.Helper()
	if e != api.OK {
		t.Fatalf("an act: %d", e)
	}
}

// told fails unless an error is the one that is wanted.
func told(t *testing.T, what string, e, want api.Errno) {
	t.Helper()
	if e != want {
		t.Errorf("%s = %d, want %d", what, e, want)
	}
}

// has fails unless a living disk's slots have these bytes.
func has(t *testing.T, d *Disk, want ...string) {
	t.Helper()
	for slot, w := range want {
		if b, e := d.Read(slot); e != api.OK || string(b) != w {
			t.Errorf("Read(%d) = %q, %d, want %q", slot, b, e, w)
		}
	}
}

// laid is a disk of 20 bytes of room whose slot 0 has ab, safe, and cde; and slot 1 F, safe, and GH.
func laid(t *testing.T) *Disk {
	t.Helper()
	d := fresh(t, 20)
	ok(t, d.Append(0, []byte("ab")))
	ok(t, d.Sync(0))
	ok(t, d.Append(0, []byte("cde")))
	ok(t, d.Append(1, []byte("F")))
	ok(t, d.Sync(1))
	ok(t, d.Append(1, []byte("GH")))
	return d
}

// isDead fails unless a disk is dead, whatever it is asked for, and none of that turns it.
func isDead(t *testing.T, d *Disk) {
	t.Helper()
	for _, slot := range append([]int{0, 1}, noSlots...) {
		told(t, "Append of a dead one", d.Append(slot, []byte("x")), api.ErrDead)
		told(t, "Append of nothing, of a dead one", d.Append(slot, nil), api.ErrDead)
		told(t, "Append of too much, of a dead one", d.Append(slot, make([]byte, most+1)), api.ErrDead)
		told(t, "Clear of a dead one", d.Clear(slot), api.ErrDead)
		told(t, "Sync of a dead one", d.Sync(slot), api.ErrDead)
		if b, e := d.Read(slot); b != nil || e != api.ErrDead {
			t.Errorf("Read(%d) of a dead one = %q, %d", slot, b, e)
		}
	}
	if !d.Dead() {
		t.Error("it is not dead")
	}
}

// Di2: the chapter's example.
func TestExample(t *testing.T) {
	d := fresh(t, 10)
	ok(t, d.Append(0, []byte{1, 2}))
	ok(t, d.Sync(0))
	ok(t, d.Append(0, []byte{3}))
	d.Crash(nil)
	has(t, d, "\x01\x02", "")
}

// Di1: room is 0 to 2^20; a new one has no bytes, all its room, and is not dead.
func TestNew(t *testing.T) {
	for _, room := range []int{0, 1, 2, 9000, most - 1, most} {
		d := fresh(t, room)
		has(t, d, "", "")
		if d.Left() != room || d.Dead() {
			t.Errorf("of room %d: Left %d, Dead %v", room, d.Left(), d.Dead())
		}
	}
	for _, room := range []int{-1, -2, most + 1, math.MinInt, math.MaxInt, 1 << 32, -1 << 32} {
		if d, e := New(room); d != nil || e != api.ErrArg {
			t.Errorf("New(%d) = %v, %d", room, d, e)
		}
	}
}

// Di1: two new ones have nothing in common.
func TestNewApart(t *testing.T) {
	a, b := fresh(t, 5), fresh(t, 5)
	ok(t, a.Append(0, []byte("ab")))
	a.Stop(0)
	has(t, b, "", "")
	if b.Left() != 5 || b.Dead() {
		t.Errorf("Left %d, Dead %v", b.Left(), b.Dead())
	}
}

// Di1: slots are 0 and 1: ErrArg of others, ahead of ErrFull, and nothing turns by it.
func TestSlots(t *testing.T) {
	d := laid(t)
	for _, slot := range noSlots {
		for _, b := range [][]byte{nil, []byte("x"), make([]byte, 12), make([]byte, 13), make([]byte, most+1)} {
			told(t, "Append", d.Append(slot, b), api.ErrArg)
		}
		told(t, "Clear", d.Clear(slot), api.ErrArg)
		told(t, "Sync", d.Sync(slot), api.ErrArg)
		if b, e := d.Read(slot); b != nil || e != api.ErrArg {
			t.Errorf("Read(%d) = %q, %d", slot, b, e)
		}
	}
	has(t, d, "abcde", "FGH")
	d.Crash(nil)
	has(t, d, "ab", "F")
}

// Di1: bytes stand behind those of their slot alone, in their order; of none nothing does.
func TestAppend(t *testing.T) {
	d := fresh(t, 100)
	ok(t, d.Append(0, nil))
	has(t, d, "", "")
	ok(t, d.Append(0, []byte("ab")))
	ok(t, d.Append(1, []byte("\x00\xff")))
	ok(t, d.Append(0, []byte{}))
	ok(t, d.Append(0, []byte("c")))
	ok(t, d.Append(1, []byte("xyz")))
	has(t, d, "abc", "\x00\xffxyz")
	if d.Left() != 92 {
		t.Errorf("Left = %d", d.Left())
	}
}

// Di1, Di3: just as many as there is room for in both slots; ErrFull of one more, and nothing turns by it.
func TestRoom(t *testing.T) {
	for _, room := range []int{0, 1, 2, 7, 300, most} {
		for _, first := range []int{0, 1, room / 2, room} {
			for slot := range 2 {
				if first <= room {
					fill(t, room, first, slot)
				}
			}
		}
	}
}

// fill takes all room: first bytes in a slot, and the others in each of both.
func fill(t *testing.T, room, first, slot int) {
	t.Helper()
	for other := range 2 {
		d := fresh(t, room)
		ok(t, d.Append(slot, make([]byte, first)))
		for _, more := range []int{1, 2, most} {
			told(t, "Append of too much", d.Append(other, make([]byte, room-first+more)), api.ErrFull)
			if d.Left() != room-first {
				t.Errorf("room %d less %d: Left = %d", room, first, d.Left())
			}
		}
		ok(t, d.Append(other, make([]byte, room-first)))
		for last := range 2 {
			told(t, "Append to a full one", d.Append(last, []byte("x")), api.ErrFull)
			told(t, "Append of nothing to a full one", d.Append(last, nil), api.OK)
		}
		a, _ := d.Read(0)
		b, _ := d.Read(1)
		if len(a)+len(b) != room || d.Left() != 0 {
			t.Errorf("room %d: %d and %d bytes, Left = %d", room, len(a), len(b), d.Left())
		}
	}
}

// Di1: what was refused for want of room is not there behind a crash either.
func TestFullTurnsNothing(t *testing.T) {
	d := laid(t)
	for slot := range 2 {
		told(t, "Append", d.Append(slot, bytes.Repeat([]byte("x"), 13)), api.ErrFull)
	}
	has(t, d, "abcde", "FGH")
	d.Crash([]int{9, 9})
	has(t, d, "abcde", "FGH")
}

// Di1: room comes back by Clear, and by a crash.
func TestRoomComesBack(t *testing.T) {
	d := fresh(t, 4)
	ok(t, d.Append(0, []byte("abcd")))
	told(t, "Append", d.Append(1, []byte("e")), api.ErrFull)
	ok(t, d.Clear(0))
	ok(t, d.Append(1, []byte("efgh")))
	has(t, d, "", "efgh")
	d.Crash([]int{9, 1})
	if d.Left() != 3 {
		t.Errorf("Left = %d", d.Left())
	}
	ok(t, d.Append(0, []byte("ijk")))
	told(t, "Append", d.Append(0, []byte("l")), api.ErrFull)
	has(t, d, "ijk", "e")
}

// Di1, R3: what is handed in or read is not shared with the disk.
func TestNothingIsShared(t *testing.T) {
	d := fresh(t, 20)
	in := []byte("abc")
	ok(t, d.Append(0, in))
	copy(in, "xyz")
	has(t, d, "abc", "")
	out, _ := d.Read(0)
	copy(out, "xyz")
	_ = append(out, "more"...)
	has(t, d, "abc", "")
	ok(t, d.Append(0, []byte("def")))
	has(t, d, "abcdef", "")
	if string(out) != "xyz" {
		t.Errorf("what was read is now %q", out)
	}
}

// R3: what is handed in is not written to, whatever is done behind it.
func TestArgumentsStay(t *testing.T) {
	d := fresh(t, 20)
	whole := []byte("abcdefgh")
	ok(t, d.Append(0, whole[:3]))
	ok(t, d.Append(0, []byte("XYZ")))
	keep := []int{2, 5, 7}
	d.Crash(keep)
	ok(t, d.Append(0, []byte("Q")))
	if string(whole) != "abcdefgh" || !slices.Equal(keep, []int{2, 5, 7}) {
		t.Errorf("%q, %v", whole, keep)
	}
	has(t, d, "abQ", "")
}

// Di2: what was read ahead of a crash, or of Clear, stays, though other bytes take that place.
func TestReadStays(t *testing.T) {
	d := laid(t)
	a, _ := d.Read(0)
	b, _ := d.Read(1)
	d.Crash(nil)
	ok(t, d.Clear(1))
	ok(t, d.Append(0, []byte("xyz")))
	ok(t, d.Append(1, []byte("xyz")))
	if string(a) != "abcde" || string(b) != "FGH" {
		t.Errorf("%q, %q", a, b)
	}
}

// Di1: Clear takes that slot's bytes at once, safe ones too: a crash does not bring them back.
func TestClear(t *testing.T) {
	d := laid(t)
	ok(t, d.Clear(0))
	has(t, d, "", "FGH")
	if d.Left() != 17 {
		t.Errorf("Left = %d", d.Left())
	}
	ok(t, d.Clear(0))
	has(t, d, "", "FGH")
	d.Crash([]int{9, 9})
	has(t, d, "", "FGH")
}

// Di1: what is put behind a Clear is not safe, though as many bytes were ahead of it.
func TestClearThenAppend(t *testing.T) {
	d := laid(t)
	ok(t, d.Sync(0))
	ok(t, d.Clear(0))
	ok(t, d.Append(0, []byte("vwxyz")))
	d.Crash(nil)
	has(t, d, "", "F")
}

// Di1, Di3: Sync makes all bytes of that slot safe, and of that one alone.
func TestSync(t *testing.T) {
	d := laid(t)
	ok(t, d.Sync(0))
	has(t, d, "abcde", "FGH")
	d.Crash(nil)
	has(t, d, "abcde", "F")
	d = fresh(t, 9)
	ok(t, d.Sync(1))
	ok(t, d.Append(1, []byte("ab")))
	d.Crash(nil)
	has(t, d, "", "")
}

// Di2: of bytes that are not safe the first ones stay, as many as are told in a slot's place.
func TestCrash(t *testing.T) {
	for _, c := range []struct {
		keep   []int
		want   string
		wanted string
	}{
		{nil, "ab", "F"},
		{[]int{}, "ab", "F"},
		{[]int{0}, "ab", "F"},
		{[]int{1}, "abc", "F"},
		{[]int{2}, "abcd", "F"},
		{[]int{3}, "abcde", "F"},
		{[]int{4}, "abcde", "F"},
		{[]int{math.MaxInt}, "abcde", "F"},
		{[]int{-1}, "ab", "F"},
		{[]int{math.MinInt}, "ab", "F"},
		{[]int{0, 1}, "ab", "FG"},
		{[]int{-1, 2}, "ab", "FGH"},
		{[]int{1, 3}, "abc", "FGH"},
		{[]int{9, -1}, "abcde", "F"},
		{[]int{math.MaxInt, math.MaxInt}, "abcde", "FGH"},
		{[]int{math.MinInt, math.MinInt}, "ab", "F"},
		{[]int{1, 1, 9, -9, 9}, "abc", "FG"},
		{[]int{9, 9}[:1], "abcde", "F"},
	} {
		d := laid(t)
		d.Crash(c.keep)
		has(t, d, c.want, c.wanted)
		if left := 20 - len(c.want) - len(c.wanted); d.Left() != left {
			t.Errorf("Crash(%v): Left = %d, want %d", c.keep, d.Left(), left)
		}
	}
}

// Di2, Di3: behind a crash all is safe: it is there behind the next one too.
func TestCrashAgain(t *testing.T) {
	d := laid(t)
	d.Crash([]int{1, 1})
	d.Crash(nil)
	has(t, d, "abc", "FG")
	ok(t, d.Append(0, []byte("xyz")))
	d.Crash([]int{2})
	d.Crash([]int{-1, -1})
	has(t, d, "abcxy", "FG")
}

// Di2: a crash of a disk without bytes, or without room, leaves it so.
func TestCrashOfNothing(t *testing.T) {
	for _, room := range []int{0, 5} {
		d := fresh(t, room)
		d.Crash([]int{5, 5})
		has(t, d, "", "")
		if d.Left() != room || d.Dead() {
			t.Errorf("Left %d, Dead %v", d.Left(), d.Dead())
		}
	}
}

// Di2: n acts are done, of each kind, then it is dead; what was done is there behind a crash.
func TestStop(t *testing.T) {
	for n := range 4 {
		for _, do := range []func(*Disk) api.Errno{
			func(d *Disk) api.Errno { return d.Append(1, []byte("x")) },
			func(d *Disk) api.Errno { return d.Append(1, nil) },
			func(d *Disk) api.Errno { return d.Clear(0) },
			func(d *Disk) api.Errno { return d.Sync(0) },
			func(d *Disk) api.Errno { return d.Sync(1) },
		} {
			d := fresh(t, 9)
			d.Stop(n)
			for range n {
				if d.Dead() {
					t.Errorf("Stop(%d): dead too soon", n)
				}
				ok(t, do(d))
			}
			if !d.Dead() {
				t.Errorf("Stop(%d): not dead behind its acts", n)
			}
			told(t, "one more", do(d), api.ErrDead)
			isDead(t, d)
		}
	}
}

// Di2: the act behind the last one is not done.
func TestStopUndone(t *testing.T) {
	for _, do := range []func(*Disk) api.Errno{
		func(d *Disk) api.Errno { return d.Append(0, []byte("x")) },
		func(d *Disk) api.Errno { return d.Clear(0) },
		func(d *Disk) api.Errno { return d.Sync(0) },
	} {
		d := laid(t)
		d.Stop(1)
		ok(t, d.Append(1, []byte("I")))
		told(t, "the next one", do(d), api.ErrDead)
		c := d.Clone()
		d.Crash([]int{9, 9})
		has(t, d, "abcde", "FGHI")
		c.Crash(nil)
		has(t, c, "ab", "F")
	}
}

// Di2: what is refused, Read, Left, Dead, Clone and Stop's own call are no acts.
func TestStopCountsActsAlone(t *testing.T) {
	d := laid(t)
	d.Stop(2)
	for range 2 {
		for range 5 {
			told(t, "Append", d.Append(2, nil), api.ErrArg)
			told(t, "Append", d.Append(0, make([]byte, 19)), api.ErrFull)
			told(t, "Clear", d.Clear(-1), api.ErrArg)
			told(t, "Sync", d.Sync(2), api.ErrArg)
			_, e := d.Read(-1)
			told(t, "Read", e, api.ErrArg)
			_, e = d.Read(0)
			told(t, "Read", e, api.OK)
			d.Left()
			d.Clone().Stop(0)
			if d.Dead() {
				t.Fatal("dead by what is no act")
			}
		}
		ok(t, d.Append(0, []byte("x")))
	}
	isDead(t, d)
}

// Di2: below 0 it never dies; a later Stop of a living disk holds instead of the one ahead.
func TestStopAgain(t *testing.T) {
	for _, n := range []int{-1, -2, math.MinInt} {
		d := fresh(t, 9)
		d.Stop(1)
		d.Stop(n)
		for range 100 {
			ok(t, d.Sync(0))
		}
		d.Stop(1)
		ok(t, d.Sync(0))
		isDead(t, d)
	}
	for _, n := range []int{0, 1, 2, 5} {
		d := fresh(t, 9)
		d.Stop(3)
		ok(t, d.Clear(0))
		d.Stop(n)
		for range n {
			ok(t, d.Clear(0))
		}
		isDead(t, d)
	}
	d := fresh(t, 9)
	d.Stop(math.MaxInt)
	ok(t, d.Clear(1))
	if d.Dead() {
		t.Error("Stop of many acts: dead")
	}
}

// Di2: a dead disk stays dead by any Stop, and has its room; a crash alone lets it live, with Stop off.
func TestDead(t *testing.T) {
	for _, n := range []int{-1, math.MinInt, 0, 1, 2, math.MaxInt} {
		d := laid(t)
		d.Stop(0)
		isDead(t, d)
		d.Stop(n)
		isDead(t, d)
		if d.Left() != 12 {
			t.Errorf("Left of a dead one = %d", d.Left())
		}
		d.Crash([]int{1, 1})
		if d.Dead() {
			t.Error("dead behind a crash")
		}
		has(t, d, "abc", "FG")
		for range 9 {
			ok(t, d.Sync(1))
		}
		if d.Dead() {
			t.Error("Stop was not off")
		}
	}
}

// Di2: a crash puts off a Stop that is on.
func TestCrashPutsStopOff(t *testing.T) {
	for n := range 4 {
		d := laid(t)
		d.Stop(n)
		d.Crash(nil)
		for range 9 {
			ok(t, d.Append(0, []byte("x")))
		}
		has(t, d, "abxxxxxxxxx", "F")
	}
}

// Di2: a clone is as the disk is: bytes, what is safe, room, Stop and whether it is dead.
func TestClone(t *testing.T) {
	for n := -1; n < 4; n++ {
		d := laid(t)
		d.Stop(n)
		c := d.Clone()
		if c == nil || c == d {
			t.Fatalf("Clone = %p of %p", c, d)
		}
		for i := 0; i < n; i++ {
			ok(t, c.Sync(i%2))
			ok(t, d.Sync(i%2))
		}
		if c.Dead() != (n >= 0) || d.Dead() != (n >= 0) || c.Left() != 12 {
			t.Errorf("Stop(%d): Dead %v and %v, Left %d", n, c.Dead(), d.Dead(), c.Left())
		}
	}
	for _, keep := range [][]int{nil, {1, 1}, {9, 9}, {-1, 2}} {
		d := laid(t)
		c := d.Clone()
		c.Crash(keep)
		d.Crash(keep)
		a, _ := d.Read(0)
		b, _ := d.Read(1)
		has(t, c, string(a), string(b))
	}
}

// Di2: neither of both turns by the other one.
func TestCloneTurnsByItself(t *testing.T) {
	for _, turn := range []func(*Disk){
		func(d *Disk) { d.Append(0, []byte("xyz")); d.Append(1, []byte("xyz")) },
		func(d *Disk) { d.Clear(0); d.Append(0, []byte("xyz")) },
		func(d *Disk) { d.Sync(0); d.Sync(1) },
		func(d *Disk) { d.Crash(nil); d.Append(0, []byte("xyz")); d.Append(1, []byte("xyz")) },
		func(d *Disk) { d.Crash([]int{9, 9}); d.Append(0, []byte("xyz")) },
		func(d *Disk) { d.Stop(1); d.Sync(1) },
		func(d *Disk) { d.Stop(0) },
	} {
		for _, of := range []int{0, 1} {
			var both [2]*Disk
			both[0] = laid(t)
			both[1] = both[0].Clone()
			turn(both[of])
			other := both[1-of]
			if other.Dead() || other.Left() != 12 {
				t.Errorf("Dead %v, Left %d", other.Dead(), other.Left())
			}
			has(t, other, "abcde", "FGH")
			ok(t, other.Append(0, []byte("q")))
			has(t, other, "abcdeq", "FGH")
			other.Crash([]int{2})
			has(t, other, "abcd", "F")
		}
	}
}

// Di2: a clone of a dead disk is dead; a crash of either one lets that one live alone.
func TestCloneOfDead(t *testing.T) {
	d := laid(t)
	d.Stop(0)
	c := d.Clone()
	isDead(t, c)
	c.Crash(nil)
	has(t, c, "ab", "F")
	isDead(t, d)
	d.Crash([]int{9, 9})
	has(t, d, "abcde", "FGH")
	has(t, c, "ab", "F")
}

// R1: a disk that New did not give, and none at all, are dead, have nothing, and stay so.
func TestNobodys(t *testing.T) {
	_, e := New(-1)
	told(t, "New", e, api.ErrArg)
	wrong, _ := New(-1)
	for _, d := range []*Disk{nil, {}, new(Disk), wrong} {
		for _, n := range []int{-1, 0, 1, 9} {
			d.Stop(n)
			isDead(t, d)
			d.Crash([]int{n, n, n})
			d.Crash(nil)
			isDead(t, d)
			if d.Left() != 0 {
				t.Errorf("Left = %d", d.Left())
			}
			c := d.Clone()
			if c != nil {
				t.Errorf("Clone = %v", c)
			}
			isDead(t, c)
		}
	}
}

// Di1: a full slot may be put byte by byte, and read whole.
func TestManyAppends(t *testing.T) {
	d := fresh(t, most)
	want := make([]byte, most)
	for i := range want {
		want[i] = byte(i ^ i>>8)
		if e := d.Append(0, want[i:i+1]); e != api.OK {
			t.Fatalf("byte %d: %d", i, e)
		}
	}
	if b, e := d.Read(0); e != api.OK || !bytes.Equal(b, want) || d.Left() != 0 {
		t.Errorf("%d bytes, %d, Left = %d", len(b), e, d.Left())
	}
	told(t, "Append", d.Append(1, []byte("x")), api.ErrFull)
}

// single is one byte, and whether it is safe.
type single struct {
	of   byte
	safe bool
}

// model is a disk by the chapter's words alone: byte by byte, with acts counted upwards.
type model struct {
	room  int
	slots [2][]single
	dead  bool
	stops bool
	done  int
	upto  int
}

func (m *model) count() int { return len(m.slots[0]) + len(m.slots[1]) }

// clone is a model of new memory.
func (m model) clone() *model {
	for i := range m.slots {
		m.slots[i] = slices.Clone(m.slots[i])
	}
	return &m
}

// act does something to a slot, unless it is refused.
func (m *model) act(slot, more int, do func(l []single) []single) api.Errno {
	switch {
	case m.dead:
		return api.ErrDead
	case slot != 0 && slot != 1:
		return api.ErrArg
	case m.count()+more > m.room:
		return api.ErrFull
	}
	m.slots[slot] = do(m.slots[slot])
	m.done++
	m.dead = m.stops && m.done == m.upto
	return api.OK
}

func (m *model) stop(n int) {
	if !m.dead {
		m.stops, m.done, m.upto = n >= 0, 0, n
		m.dead = n == 0
	}
}

func (m *model) crash(keep []int) {
	for i, l := range m.slots {
		var stay []single
		kept := 0
		for _, x := range l {
			if x.safe {
				stay = append(stay, x)
			} else if i < len(keep) && kept < keep[i] {
				stay = append(stay, single{x.of, true})
				kept++
			}
		}
		m.slots[i] = stay
	}
	m.dead, m.stops = false, false
}

// step is something that is done to a disk and to its model, and what each answers.
type step struct {
	name string
	real func(d *Disk) api.Errno
	mock func(m *model) api.Errno
}

// appends is a step that lets bytes stand behind a slot's.
func appends(slot int, b string) step {
	return step{"append", func(d *Disk) api.Errno { return d.Append(slot, []byte(b)) }, func(m *model) api.Errno {
		return m.act(slot, len(b), func(l []single) []single {
			for _, x := range []byte(b) {
				l = append(l, single{x, false})
			}
			return l
		})
	}}
}

// clears is a step that lets go of a slot's bytes.
func clears(slot int) step {
	return step{"clear", func(d *Disk) api.Errno { return d.Clear(slot) }, func(m *model) api.Errno {
		return m.act(slot, 0, func([]single) []single { return nil })
	}}
}

// syncs is a step that makes a slot's bytes safe.
func syncs(slot int) step {
	return step{"sync", func(d *Disk) api.Errno { return d.Sync(slot) }, func(m *model) api.Errno {
		return m.act(slot, 0, func(l []single) []single {
			for i := range l {
				l[i].safe = true
			}
			return l
		})
	}}
}

// stops is a step that lets it die.
func stops(n int) step {
	return step{"stop", func(d *Disk) api.Errno { d.Stop(n); return api.OK }, func(m *model) api.Errno { m.stop(n); return api.OK }}
}

// crashes is a step that lets its power go.
func crashes(keep ...int) step {
	return step{"crash", func(d *Disk) api.Errno { d.Crash(keep); return api.OK }, func(m *model) api.Errno { m.crash(keep); return api.OK }}
}

// alike tells whether a disk is as its model, as far as it is to be seen, and (Di3) has no more bytes than room.
func alike(d *Disk, m *model) bool {
	if d.Dead() != m.dead || d.Left() != m.room-m.count() || d.Left() < 0 {
		return false
	}
	for slot, l := range m.slots {
		var want []byte
		for _, x := range l {
			want = append(want, x.of)
		}
		b, e := d.Read(slot)
		if m.dead && (b != nil || e != api.ErrDead) || !m.dead && (e != api.OK || !bytes.Equal(b, want)) {
			return false
		}
	}
	return true
}

// Di1, Di2, Di3: all short runs of steps, on clones, answer as the model does; behind each one what is safe is there, whatever crash comes.
func TestRuns(t *testing.T) {
	steps := []step{
		appends(0, "ab"), appends(0, "cde"), appends(1, "F"), appends(1, "GHIJ"), appends(1, ""), appends(2, "x"),
		clears(0), clears(1), syncs(0), syncs(1), stops(-1), stops(0), stops(1), stops(2),
		crashes(), crashes(1, 9), crashes(-1, 1, 1),
	}
	for _, room := range []int{0, 3, 8} {
		run(t, steps, fresh(t, room), &model{room: room}, "", 4)
	}
}

// run goes through all runs of up to some steps.
func run(t *testing.T, steps []step, d *Disk, m *model, path string, depth int) {
	if depth == 0 || t.Failed() {
		return
	}
	for _, s := range steps {
		c, n := d.Clone(), m.clone()
		here := path + " " + s.name
		if got, want := s.real(c), s.mock(n); got != want || !alike(c, n) {
			t.Errorf("%s: %d, want %d; %+v, want %+v", here, got, want, *c, *n)
			return
		}
		crashed, wanted := c.Clone(), n.clone()
		crashed.Crash(nil)
		wanted.crash(nil)
		if !alike(crashed, wanted) || !alike(c, n) || !alike(d, m) {
			t.Errorf("%s, then a crash: %+v, want %+v", here, *crashed, *wanted)
			return
		}
		run(t, steps, c, n, here, depth-1)
	}
}
