package clock

import (
	"bytes"
	"math"
	"slices"
	"testing"

	"huckster/api"
	"huckster/wire"
)

// most is the greatest number that a replica has.
const most = api.MaxSeq

// smallClocks are all clocks of up to three numbers of 0 to 2, those with noughts at their end too.
func smallClocks() []api.Clock {
	l := []api.Clock{nil, {}}
	for a := range 3 {
		l = append(l, api.Clock{a})
		for b := range 3 {
			l = append(l, api.Clock{a, b})
			for c := range 3 {
				l = append(l, api.Clock{a, b, c})
			}
		}
	}
	return l
}

// clocks are clocks that may be: small ones, and those at the edges.
func clocks() []api.Clock {
	return append(smallClocks(),
		api.Clock{most}, api.Clock{0, most}, api.Clock{most - 1, 0, 255}, api.Clock{256, 65535, 65536},
		api.Clock{0, 0, 0, 1}, api.Clock{0, 0, 0, 0}, api.Clock{1, 0, 0, 0},
		api.Clock{0, 0, 0, 0, 0}, api.Clock{0, 0, 0, 0, 1}, api.Clock{1, 2, 3, 4, 5}, api.Clock{5, 4, 3, 2, 1},
		api.Clock{7, 0, 0, 0, 0}, api.Clock{7, 0, 9, 0, 0}, api.Clock{0, 7, 0, 9, 0}, api.Clock{0, 7, 0, 9, 0}[:4],
		api.Clock{most, most, most, most, most}, api.Clock{most, 0, most, 0, most}, api.Clock{most - 1, most, 1, 0, most})
}

// wrongClocks are clocks that may not be.
func wrongClocks() []api.Clock {
	l := []api.Clock{
		{0, 0, 0, 0, 0, 0}, {1, 2, 3, 4, 5, 6}, {1, 2, 3, 4, 5, 0}, {0, 0, 0, 0, 0, 1}, make(api.Clock, 100), {1, 2, 3, 4, 5, -1},
	}
	for _, n := range []int{-1, most + 1, math.MinInt, math.MaxInt, 1 << 32, -1 << 32} {
		for size := 1; size <= api.MaxReps; size++ {
			for at := range size {
				c := make(api.Clock, size)
				for i := range c {
					c[i] = 1 + i
				}
				c[at] = n
				l = append(l, c)
			}
		}
	}
	return l
}

// anyClocks are those that may be, and some that may not.
func anyClocks() []api.Clock { return append(clocks(), wrongClocks()[:12]...) }

// number is a replica's number by the chapter's words alone; wrong ones are told by wrong.
func number(c api.Clock, rep int) int {
	if wrong(c) || rep < 1 || rep > len(c) {
		return 0
	}
	return c[rep-1]
}

// wrong tells whether a clock may not be.
func wrong(c api.Clock) bool {
	return len(c) > 5 || slices.ContainsFunc(c, func(n int) bool { return n < 0 || n > 1048576 })
}

// made is the plain clock of each replica's number.
func made(of func(rep int) int) api.Clock {
	var c api.Clock
	for rep := 1; rep <= 5; rep++ {
		c = append(c, of(rep))
	}
	for len(c) > 0 && c[len(c)-1] == 0 {
		c = c[:len(c)-1]
	}
	return c
}

// isWithin tells whether a is within b, number by number.
func isWithin(a, b api.Clock) bool {
	for rep := 1; rep <= 5; rep++ {
		if number(a, rep) > number(b, rep) {
			return false
		}
	}
	return true
}

// Cl2: the chapter's example.
func TestExample(t *testing.T) {
	if got := Join(api.Clock{1, 2}, api.Clock{0, 5, 1}); !slices.Equal(got, api.Clock{1, 5, 1}) {
		t.Errorf("Join = %v", got)
	}
}

// Cl1: 5 numbers at most, each 0 to MaxSeq.
func TestCheck(t *testing.T) {
	for _, c := range clocks() {
		if e := Check(c); e != api.OK {
			t.Errorf("Check(%v) = %d", c, e)
		}
	}
	for _, c := range wrongClocks() {
		if e := Check(c); e != api.ErrArg {
			t.Errorf("Check(%v) = %d", c, e)
		}
	}
	for size := range 12 {
		if e := Check(make(api.Clock, size)); (e == api.OK) != (size <= 5) {
			t.Errorf("Check of %d numbers = %d", size, e)
		}
	}
}

// Cl1: noughts at the end go, those between stay; a clock that may not be is as one of nothing.
func TestPlain(t *testing.T) {
	for _, c := range []struct{ from, want api.Clock }{
		{nil, nil},
		{api.Clock{}, nil},
		{api.Clock{0}, nil},
		{api.Clock{1}, api.Clock{1}},
		{api.Clock{1, 0}, api.Clock{1}},
		{api.Clock{0, 1}, api.Clock{0, 1}},
		{api.Clock{0, 0, 0, 0, 0}, nil},
		{api.Clock{1, 0, 2, 0, 0}, api.Clock{1, 0, 2}},
		{api.Clock{0, 0, 0, 0, most}, api.Clock{0, 0, 0, 0, most}},
		{api.Clock{1, 2, 3, 4, 5}, api.Clock{1, 2, 3, 4, 5}},
		{api.Clock{most, 0, 0, 0, 0}, api.Clock{most}},
	} {
		if got := Plain(c.from); !slices.Equal(got, c.want) {
			t.Errorf("Plain(%v) = %v, want %v", c.from, got, c.want)
		}
	}
	for _, c := range wrongClocks() {
		if got := Plain(c); len(got) != 0 {
			t.Errorf("Plain(%v) = %v", c, got)
		}
	}
}

// Cl1: a replica's number; 0, where there is none such.
func TestGet(t *testing.T) {
	c := api.Clock{7, 0, most}
	for rep, want := range map[int]int{
		-1: 0, 0: 0, 1: 7, 2: 0, 3: most, 4: 0, 5: 0, 6: 0, math.MinInt: 0, math.MaxInt: 0, 1<<32 + 1: 0,
	} {
		if got := Get(c, rep); got != want {
			t.Errorf("Get(%v, %d) = %d, want %d", c, rep, got, want)
		}
	}
	for _, c := range append(clocks(), wrongClocks()...) {
		for rep := -2; rep <= 8; rep++ {
			if got := Get(c, rep); got != number(c, rep) {
				t.Errorf("Get(%v, %d) = %d", c, rep, got)
			}
		}
	}
}

// Cl1: that number alone is another; what is told is plain; a clock that may not be is as one of nothing.
func TestSet(t *testing.T) {
	for _, c := range append(clocks(), wrongClocks()...) {
		for rep := 1; rep <= 5; rep++ {
			for _, n := range []int{0, 1, 2, 300, most - 1, most} {
				want := made(func(r int) int {
					if r == rep {
						return n
					}
					return number(c, r)
				})
				if got, e := Set(c, rep, n); e != api.OK || !slices.Equal(got, want) {
					t.Errorf("Set(%v, %d, %d) = %v, %d, want %v", c, rep, n, got, e, want)
				}
			}
		}
	}
}

// Cl1: a replica, or a number, that may not be, whatever the clock is.
func TestSetWrong(t *testing.T) {
	for _, c := range anyClocks() {
		for _, rep := range []int{-1, 0, 6, 7, math.MinInt, math.MaxInt, 1<<32 + 1} {
			for _, n := range []int{-1, 0, 1, most, most + 1} {
				noClock(t, "Set", c, rep, n, api.ErrArg)
			}
		}
		for rep := 1; rep <= 5; rep++ {
			for _, n := range []int{-1, most + 1, math.MinInt, math.MaxInt, 1 << 32} {
				noClock(t, "Set", c, rep, n, api.ErrArg)
			}
		}
	}
}

// noClock fails unless Set, or Tick, tells want, and nothing else.
func noClock(t *testing.T, name string, c api.Clock, rep, n int, want api.Errno) {
	t.Helper()
	got, e := Tick(c, rep)
	if name == "Set" {
		got, e = Set(c, rep, n)
	}
	if got != nil || e != want {
		t.Errorf("%s(%v, %d, %d) = %v, %d, want the error %d alone", name, c, rep, n, got, e, want)
	}
}

// Cl1: one more; ErrFull at MaxSeq, and not one below it; a clock that may not be is as one of nothing.
func TestTick(t *testing.T) {
	for _, c := range append(clocks(), wrongClocks()...) {
		for rep := 1; rep <= 5; rep++ {
			if number(c, rep) == most {
				noClock(t, "Tick", c, rep, 0, api.ErrFull)
				continue
			}
			want := made(func(r int) int {
				if r == rep {
					return number(c, r) + 1
				}
				return number(c, r)
			})
			if got, e := Tick(c, rep); e != api.OK || !slices.Equal(got, want) {
				t.Errorf("Tick(%v, %d) = %v, %d, want %v", c, rep, got, e, want)
			}
		}
	}
	if got, e := Tick(api.Clock{1, most - 1, 0}, 2); e != api.OK || !slices.Equal(got, api.Clock{1, most}) {
		t.Errorf("Tick to MaxSeq = %v, %d", got, e)
	}
	if got, e := Tick(api.Clock{1}, 3); e != api.OK || !slices.Equal(got, api.Clock{1, 0, 1}) {
		t.Errorf("Tick of a replica that the clock has not = %v, %d", got, e)
	}
}

// Cl1: a replica that may not be is told, though all numbers are MaxSeq, or the clock may not be.
func TestTickWrong(t *testing.T) {
	for _, c := range anyClocks() {
		for _, rep := range []int{-1, 0, 6, 7, math.MinInt, math.MaxInt, 1<<32 + 1} {
			noClock(t, "Tick", c, rep, 0, api.ErrArg)
		}
	}
}

// Cl1: all numbers together; 0 of a clock that may not be.
func TestSum(t *testing.T) {
	for _, c := range []struct {
		of   api.Clock
		want int
	}{
		{nil, 0}, {api.Clock{0, 0}, 0}, {api.Clock{1}, 1}, {api.Clock{1, 0, 2, 0}, 3}, {api.Clock{1, 2, 3, 4, 5}, 15},
		{api.Clock{most, most, most, most, most}, 5 * most}, {api.Clock{0, 0, 0, 0, 9}, 9},
	} {
		if got := Sum(c.of); got != c.want {
			t.Errorf("Sum(%v) = %d, want %d", c.of, got, c.want)
		}
	}
	for _, c := range wrongClocks() {
		if got := Sum(c); got != 0 {
			t.Errorf("Sum(%v) = %d", c, got)
		}
	}
}

// Cl2: Join of none, of one, and of more, wrong ones among them.
func TestJoin(t *testing.T) {
	six := api.Clock{9, 9, 9, 9, 9, 9}
	for _, c := range []struct {
		of   []api.Clock
		want api.Clock
	}{
		{nil, nil},
		{[]api.Clock{nil}, nil},
		{[]api.Clock{{}, nil, {0, 0}}, nil},
		{[]api.Clock{{3, 0, 1, 0}}, api.Clock{3, 0, 1}},
		{[]api.Clock{{1}, {0, 2}, {0, 0, 3}, {0, 0, 0, 4}, {0, 0, 0, 0, 5}}, api.Clock{1, 2, 3, 4, 5}},
		{[]api.Clock{{5, 1}, {4, 2}, {3, 3}, {2, 4}}, api.Clock{5, 4}},
		{[]api.Clock{{1, most}, {most, 1}}, api.Clock{most, most}},
		{[]api.Clock{six}, nil},
		{[]api.Clock{{1}, six, {0, 1}}, api.Clock{1, 1}},
		{[]api.Clock{{most + 1, 7}, {1}, {-1, 8}}, api.Clock{1}},
	} {
		if got := Join(c.of...); !slices.Equal(got, c.want) {
			t.Errorf("Join(%v) = %v, want %v", c.of, got, c.want)
		}
	}
}

// Cl2: Join, Meet, Within and Order of any two clocks, those that may not be too.
func TestTwo(t *testing.T) {
	for _, a := range anyClocks() {
		for _, b := range anyClocks() {
			greatest := made(func(rep int) int { return max(number(a, rep), number(b, rep)) })
			lesser := made(func(rep int) int { return min(number(a, rep), number(b, rep)) })
			if got := Join(a, b); !slices.Equal(got, greatest) {
				t.Errorf("Join(%v, %v) = %v, want %v", a, b, got, greatest)
			}
			if got := Meet(a, b); !slices.Equal(got, lesser) {
				t.Errorf("Meet(%v, %v) = %v, want %v", a, b, got, lesser)
			}
			if got := Within(a, b); got != isWithin(a, b) {
				t.Errorf("Within(%v, %v) = %v", a, b, got)
			}
			if got, want := Order(a, b), order(isWithin(a, b), isWithin(b, a)); got != want {
				t.Errorf("Order(%v, %v) = %d, want %d", a, b, got, want)
			}
		}
	}
}

// order is how two are in order, by which one is within the other one.
func order(first, second bool) int {
	if first && second {
		return 0
	}
	if first {
		return -1
	}
	if second {
		return 1
	}
	return 2
}

// Cl2: every order of two clocks, by hand.
func TestOrder(t *testing.T) {
	for _, c := range []struct {
		a, b api.Clock
		want int
	}{
		{nil, nil, 0},
		{nil, api.Clock{0, 0}, 0},
		{api.Clock{1, 2}, api.Clock{1, 2, 0}, 0},
		{nil, api.Clock{1}, -1},
		{api.Clock{1, 2}, api.Clock{1, 3}, -1},
		{api.Clock{1}, api.Clock{1, 0, 1}, -1},
		{api.Clock{1}, nil, 1},
		{api.Clock{2, 2}, api.Clock{1, 2, 0}, 1},
		{api.Clock{0, 0, 0, 0, 1}, api.Clock{0}, 1},
		{api.Clock{1}, api.Clock{0, 1}, 2},
		{api.Clock{1, 2, 3}, api.Clock{3, 2, 1}, 2},
		{api.Clock{0, 0, 0, 0, 1}, api.Clock{most}, 2},
		{api.Clock{1, 2, 3, 4, 5, 6}, nil, 0},
		{api.Clock{-1, 5}, api.Clock{most + 1}, 0},
		{api.Clock{-1, 5}, api.Clock{1}, -1},
		{api.Clock{1}, make(api.Clock, 6), 1},
	} {
		if got := Order(c.a, c.b); got != c.want {
			t.Errorf("Order(%v, %v) = %d, want %d", c.a, c.b, got, c.want)
		}
		back := map[int]int{0: 0, -1: 1, 1: -1, 2: 2}[c.want]
		if got := Order(c.b, c.a); got != back {
			t.Errorf("Order(%v, %v) = %d, want %d", c.b, c.a, got, back)
		}
	}
}

// Cl3: Join is the least clock that both are within, Meet the greatest that is within both.
func TestLeastAndGreatest(t *testing.T) {
	l := smallClocks()
	for _, a := range l {
		for _, b := range l {
			both, common := Join(a, b), Meet(a, b)
			for _, c := range l {
				if Within(both, c) != (Within(a, c) && Within(b, c)) {
					t.Errorf("Join(%v, %v) = %v against %v", a, b, both, c)
				}
				if Within(c, common) != (Within(c, a) && Within(c, b)) {
					t.Errorf("Meet(%v, %v) = %v against %v", a, b, common, c)
				}
			}
		}
	}
}

// Cl3: in which order clocks are joined, and how often, does not matter.
func TestJoinOrder(t *testing.T) {
	l := clocks()
	all := Join(l...)
	slices.Reverse(l)
	if got := Join(append(l, l...)...); !slices.Equal(got, all) {
		t.Errorf("%v, backwards and twice %v", all, got)
	}
	var one api.Clock
	for _, c := range l {
		one = Join(one, c)
	}
	if !slices.Equal(one, all) {
		t.Errorf("%v, one by one %v", all, one)
	}
}

// Cl2: the bytes are a pack's of numbers' bytes, as the clock is plain.
func TestPut(t *testing.T) {
	for _, c := range []struct {
		of   api.Clock
		want []byte
	}{
		{nil, []byte{0}},
		{api.Clock{0, 0, 0, 0, 0}, []byte{0}},
		{api.Clock{1}, []byte{1, 1, 1, 2, 1, 1}},
		{api.Clock{1, 0, 0}, []byte{1, 1, 1, 2, 1, 1}},
		{api.Clock{0, 258}, []byte{1, 2, 1, 1, 0, 1, 3, 2, 1, 2}},
		{api.Clock{255, 0, 65536, 0, 0}, []byte{1, 3, 1, 2, 1, 255, 1, 1, 0, 1, 4, 3, 1, 0, 0}},
		{api.Clock{0, 0, 0, 0, most}, []byte{1, 5, 1, 1, 0, 1, 1, 0, 1, 1, 0, 1, 1, 0, 1, 4, 3, 16, 0, 0}},
	} {
		if got := Put(c.of); !bytes.Equal(got, c.want) {
			t.Errorf("Put(%v) = %v, want %v", c.of, got, c.want)
		}
	}
	for _, c := range wrongClocks() {
		if got := Put(c); !bytes.Equal(got, []byte{0}) {
			t.Errorf("Put(%v) = %v", c, got)
		}
	}
}

// Cl2 and Cl3: what is put is read, whatever stands behind; every beginning is none.
func TestPutRead(t *testing.T) {
	behinds := [][]byte{nil, {0}, {1}, {9}, {255}, {1, 1, 1, 2, 1, 1}, make([]byte, 30)}
	for _, c := range anyClocks() {
		b := Put(c)
		want := made(func(rep int) int { return number(c, rep) })
		for _, behind := range behinds {
			if got, n, e := Read(slices.Concat(b, behind)); !slices.Equal(got, want) || n != len(b) || e != api.OK {
				t.Errorf("Read(Put(%v), %v) = %v, %d, %d", c, behind, got, n, e)
			}
		}
		for cut := range b {
			noRead(t, b[:cut])
		}
	}
}

// noRead fails unless Read tells ErrText of b, and nothing else.
func noRead(t *testing.T, b []byte) {
	t.Helper()
	if c, n, e := Read(b); c != nil || n != 0 || e != api.ErrText {
		t.Errorf("Read(%v) = %v, %d, %d", b, c, n, e)
	}
}

// packed is the pack of numbers' bytes, of a clock that may be or not.
func packed(l ...uint64) []byte {
	var texts [][]byte
	for _, u := range l {
		texts = append(texts, wire.Num(u))
	}
	return wire.Pack(texts...)
}

// Cl2: what is no clock's bytes: no pack, one that is not plain, of six numbers, of a number too great, of a text that is not one number's bytes.
func TestNoRead(t *testing.T) {
	noRead(t, nil)
	noRead(t, []byte{})
	for _, b := range [][]byte{
		{9}, {1}, {1, 0}, {2, 0, 1, 1, 2, 1, 1},
		packed(0), packed(0, 0), packed(1, 0), packed(1, 2, 0, 0), packed(0, 0, 0, 0, 0), packed(1, 2, 3, 4, 0),
		packed(1, 2, 3, 4, 5, 6), packed(1, 2, 3, 4, 5, 0), packed(0, 0, 0, 0, 0, 1), packed(make([]uint64, 300)...),
		packed(most + 1), packed(1, most+1, 1), packed(0, 0, 0, 0, most+1), packed(1<<32 + 1), packed(1, 1<<32, 1),
		packed(1 << 63), packed(math.MaxUint64), packed(math.MaxUint64, 1), packed(1<<63 + 1),
		wire.Pack(nil), wire.Pack([]byte{1, 1}, nil), wire.Pack(nil, []byte{1, 1}),
		wire.Pack([]byte{1, 0}), wire.Pack([]byte{2, 0, 1}), wire.Pack([]byte{1}), wire.Pack([]byte{9, 1, 1, 1, 1, 1, 1, 1, 1, 1}),
		wire.Pack([]byte{1, 1, 0}), wire.Pack([]byte{1, 1, 1, 1}), wire.Pack([]byte{0, 0}, []byte{1, 1}), wire.Pack([]byte{0, 1, 1}),
		wire.Pack([]byte{1, 1}, []byte{1, 2, 7}), wire.Pack([]byte{1, 2, 7}, []byte{1, 1}), wire.Pack(make([]byte, api.MaxBytes+1)),
	} {
		noRead(t, b)
		noRead(t, slices.Concat(b, make([]byte, 40)))
	}
}

// Cl2 and P1: whatever the bytes are, what is read is a plain clock that may be, and would be put as them.
func TestAnyBytes(t *testing.T) {
	read := 0
	seed := uint32(3)
	for range 200000 {
		b := []byte{1, 2, 1, 2, 1, 5, 1, 3, 2, 1, 7, 0, 0}
		for range 1 + seed>>30 {
			seed = seed*1664525 + 1013904223
			b[int(seed>>16)%len(b)] = byte(seed>>24) % 6
		}
		c, n, e := Read(b)
		if e != api.OK {
			noRead(t, b)
			continue
		}
		read++
		if wrong(c) || len(c) > 0 && c[len(c)-1] == 0 || !bytes.Equal(Put(c), b[:n]) {
			t.Errorf("Read(%v) = %v, %d", b, c, n)
		}
	}
	if read == 0 {
		t.Error("no clock was read at all")
	}
}

// answers are what each function tells of a and b as lists.
func answers(a, b api.Clock) []api.Clock {
	set, _ := Set(a, 2, 9)
	same, _ := Set(a, 1, Get(a, 1))
	tick, _ := Tick(a, 1)
	read, _, _ := Read(Put(a))
	return []api.Clock{Plain(a), set, same, tick, Join(a), Join(a, b), Join(b, a), Join(a, nil), Meet(a, b), Meet(a, a), read}
}

// R3: what is handed in, and what stands behind it, stays as it is; what is told is new memory.
func TestNewMemory(t *testing.T) {
	for _, c := range anyClocks() {
		room := append(slices.Clone(c), 70, 80, 90)
		before := slices.Clone(room)
		a := room[:len(c)]
		list := []api.Clock{a, nil, a}
		Join(list...)
		Within(a, a)
		Order(a, a)
		Sum(a)
		for _, got := range answers(a, a) {
			clear(got)
			_ = append(got, 60)
		}
		if !slices.Equal(room, before) || list[1] != nil || !slices.Equal(list[2], before[:len(c)]) {
			t.Errorf("%v became %v, %v", before, room, list)
		}
	}
}

// R3 and R4: what is told stays as it is, whatever is done to what was handed in, or is told again.
func TestAnswersApart(t *testing.T) {
	a, b := api.Clock{1, 2, 3}, api.Clock{3, 2, 1}
	first, again := answers(a, b), answers(a, b)
	for i := range first {
		want := slices.Clone(again[i])
		clear(first[i])
		if !slices.Equal(again[i], want) {
			t.Errorf("answer %d became %v", i, again[i])
		}
	}
	kept := slices.Clone(again[5])
	clear(a)
	clear(b)
	if !slices.Equal(again[5], kept) {
		t.Errorf("Join's answer became %v", again[5])
	}
	bytesOf := Put(api.Clock{1, 2})
	c, _, _ := Read(bytesOf)
	clear(bytesOf)
	if !slices.Equal(c, api.Clock{1, 2}) {
		t.Errorf("Read's answer became %v", c)
	}
}
