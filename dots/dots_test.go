package dots

import (
	"math"
	"slices"
	"testing"

	"huckster/api"
)

// most is the greatest number that a dot has.
const most = api.MaxSeq

// dot is a dot in short.
func dot(rep, seq int) api.Dot { return api.Dot{Rep: rep, Seq: seq} }

// seen is a Seen in short.
func seen(upto api.Clock, more ...api.Dot) api.Seen { return api.Seen{Upto: upto, More: more} }

// odd are n dots of a replica, no two of which are neighbours: 3, 5, 7 and so on.
func odd(rep, n int) []api.Dot {
	var l []api.Dot
	for i := range n {
		l = append(l, dot(rep, 3+2*i))
	}
	return l
}

// rightDots are dots that may be, in order.
func rightDots() []api.Dot {
	var l []api.Dot
	for rep := 1; rep <= 5; rep++ {
		for _, seq := range []int{1, 2, 3, 1000, most - 1, most} {
			l = append(l, dot(rep, seq))
		}
	}
	return l
}

// wrongDots are dots that may not be.
func wrongDots() []api.Dot {
	l := []api.Dot{{}}
	for _, rep := range []int{-1, 0, 6, 7, math.MinInt, math.MaxInt, 1<<32 + 1} {
		for _, seq := range []int{-1, 0, 1, most, most + 1} {
			l = append(l, dot(rep, seq))
		}
	}
	for rep := 1; rep <= 5; rep++ {
		for _, seq := range []int{-1, 0, most + 1, math.MinInt, math.MaxInt, 1<<32 + 1} {
			l = append(l, dot(rep, seq))
		}
	}
	return l
}

// rightSeens are some that may be.
func rightSeens() []api.Seen {
	return []api.Seen{
		{}, {Upto: api.Clock{}, More: []api.Dot{}},
		seen(api.Clock{1}), seen(api.Clock{most, most, most, most, most}), seen(api.Clock{0, 0, 0, 0, 7}),
		seen(nil, dot(1, 2)), seen(nil, dot(5, most)), seen(api.Clock{1}, dot(1, 3)), seen(api.Clock{0, 4}, dot(1, 2), dot(2, 6)),
		seen(api.Clock{most - 2}, dot(1, most)), seen(api.Clock{most, 0, 2}, dot(2, 2), dot(3, 4), dot(3, 5), dot(5, 9)),
		seen(api.Clock{1}, odd(1, 1)...), seen(nil, odd(2, 999)...), seen(nil, odd(2, 1000)...),
		seen(api.Clock{7, 8}, append(odd(3, 500), odd(4, 500)...)...),
	}
}

// wrongSeens are some that may not be, each for one reason alone.
func wrongSeens() []api.Seen {
	l := []api.Seen{
		// Upto may not be.
		seen(api.Clock{-1}), seen(api.Clock{most + 1}), seen(api.Clock{1, 2, 3, 4, 5, 6}), seen(make(api.Clock, 6)),
		seen(api.Clock{1, -1, 1}, dot(1, 3)), seen(api.Clock{math.MaxInt}), seen(api.Clock{1, math.MinInt}),
		// Upto is not plain.
		seen(api.Clock{0}), seen(api.Clock{1, 0}), seen(make(api.Clock, 5)), seen(api.Clock{1, 2, 0, 0}, dot(1, 3)),
		// More has too many.
		seen(nil, odd(2, 1001)...), seen(api.Clock{1}, append(odd(3, 500), odd(4, 501)...)...), seen(nil, odd(5, 5000)...),
		// More is out of order, or has one twice.
		seen(nil, dot(1, 3), dot(1, 2)), seen(nil, dot(2, 2), dot(1, 3)), seen(nil, dot(1, 2), dot(1, 4), dot(1, 3)),
		seen(nil, dot(1, 2), dot(1, 2)), seen(nil, dot(1, 2), dot(3, 7), dot(3, 7)), seen(nil, dot(1, 2), dot(1, 3), dot(1, 2)),
		// One is that behind Upto's number.
		seen(nil, dot(1, 1)), seen(nil, dot(5, 1)), seen(api.Clock{1}, dot(1, 2)), seen(api.Clock{1}, dot(2, 1)),
		seen(api.Clock{0, 4}, dot(1, 2), dot(2, 5)), seen(api.Clock{most - 1}, dot(1, most)),
		// One is ahead of it.
		seen(api.Clock{1}, dot(1, 1)), seen(api.Clock{4}, dot(1, 4)), seen(api.Clock{4}, dot(1, 3)), seen(api.Clock{4}, dot(1, 1)),
		seen(api.Clock{9, 4}, dot(2, 2), dot(3, 2)), seen(api.Clock{most}, dot(1, most)), seen(api.Clock{most}, dot(1, 1)),
	}
	for _, d := range wrongDots() {
		l = append(l, seen(nil, d), seen(api.Clock{1, 2}, d))
	}
	return append(l, seen(nil, dot(1, 2), dot(1, most+1)), seen(nil, dot(5, 2), dot(6, 2)), seen(nil, dot(0, 2), dot(1, 2)))
}

// isSeen tells whether a dot is seen, by the chapter's words alone.
func isSeen(s api.Seen, d api.Dot) bool {
	if d.Rep < 1 || d.Rep > 5 || d.Seq < 1 || d.Seq > 1048576 {
		return false
	}
	return d.Rep <= len(s.Upto) && d.Seq <= s.Upto[d.Rep-1] || slices.Contains(s.More, d)
}

// universe are dots of which sets are made: two replicas with neighbours, and one dot of a third.
func universe() []api.Dot {
	return []api.Dot{dot(1, 1), dot(1, 2), dot(1, 3), dot(1, 4), dot(3, 1), dot(3, 2), dot(3, 3), dot(5, 2)}
}

// chosen are the dots of the universe whose bits are set.
func chosen(set int) []api.Dot {
	var l []api.Dot
	for i, d := range universe() {
		if set>>i&1 == 1 {
			l = append(l, d)
		}
	}
	return l
}

// made is the Seen of dots, by the chapter's words: each replica's dots from 1 on as far as none is lacking, and the others in order.
func made(l []api.Dot) api.Seen {
	var s api.Seen
	for rep := 1; rep <= 5; rep++ {
		n := 0
		for slices.Contains(l, dot(rep, n+1)) {
			n++
		}
		s.Upto = append(s.Upto, n)
		for seq := n + 2; seq <= 20; seq++ {
			if slices.Contains(l, dot(rep, seq)) {
				s.More = append(s.More, dot(rep, seq))
			}
		}
	}
	for len(s.Upto) > 0 && s.Upto[len(s.Upto)-1] == 0 {
		s.Upto = s.Upto[:len(s.Upto)-1]
	}
	return s
}

// alike tells whether two have the same lists, without asking Same.
func alike(a, b api.Seen) bool { return slices.Equal(a.Upto, b.Upto) && slices.Equal(a.More, b.More) }

// copied is a copy in new memory.
func copied(s api.Seen) api.Seen {
	return api.Seen{Upto: slices.Clone(s.Upto), More: slices.Clone(s.More)}
}

// isZero tells whether it is the zero value.
func isZero(s api.Seen) bool { return s.Upto == nil && s.More == nil }

// wantAdd fails unless Add tells want.
func wantAdd(t *testing.T, s api.Seen, l []api.Dot, want api.Seen) {
	t.Helper()
	got, e := Add(s, l...)
	if e != api.OK || !alike(got, want) {
		t.Errorf("Add(%v, %v) = %v, %d, want %v", s, l, got, e, want)
	}
	if Check(got) != api.OK {
		t.Errorf("Add(%v, %v) = %v, which may not be", s, l, got)
	}
}

// noAdd fails unless Add tells the error alone.
func noAdd(t *testing.T, s api.Seen, l []api.Dot, want api.Errno) {
	t.Helper()
	if got, e := Add(s, l...); e != want || !isZero(got) {
		t.Errorf("Add of %d dots to %d = %v, %d, want the error %d alone", len(l), len(s.More), got, e, want)
	}
}

// wantJoin fails unless Join tells want, either way round.
func wantJoin(t *testing.T, a, b, want api.Seen) {
	t.Helper()
	for range 2 {
		got, e := Join(a, b)
		if e != api.OK || !alike(got, want) {
			t.Errorf("Join(%v, %v) = %v, %d, want %v", a, b, got, e, want)
		}
		if Check(got) != api.OK {
			t.Errorf("Join(%v, %v) = %v, which may not be", a, b, got)
		}
		a, b = b, a
	}
}

// noJoin fails unless Join tells the error alone, either way round.
func noJoin(t *testing.T, a, b api.Seen, want api.Errno) {
	t.Helper()
	for range 2 {
		if got, e := Join(a, b); e != want || !isZero(got) {
			t.Errorf("Join(%v, %v) = %v, %d, want the error %d alone", a, b, got, e, want)
		}
		a, b = b, a
	}
}

// Do1: the chapter's example.
func TestExample(t *testing.T) {
	s, e := Add(api.Seen{}, dot(1, 2))
	if e != api.OK || !alike(s, seen(nil, dot(1, 2))) {
		t.Errorf("Add 1.2 to nothing = %v, %d", s, e)
	}
	s, e = Add(s, dot(1, 1))
	if e != api.OK || !alike(s, seen(api.Clock{2})) {
		t.Errorf("Add 1.1 then = %v, %d", s, e)
	}
}

// Do1: Rep is 1 to 5, and Seq 1 to MaxSeq.
func TestMay(t *testing.T) {
	for _, rep := range []int{-1, 0, 1, 2, 3, 4, 5, 6} {
		for _, seq := range []int{-1, 0, 1, 2, most - 1, most, most + 1} {
			want := rep != -1 && rep != 0 && rep != 6 && seq != -1 && seq != 0 && seq != most+1
			if got := May(dot(rep, seq)); got != want {
				t.Errorf("May(%d.%d) = %v", rep, seq, got)
			}
		}
	}
	for _, d := range rightDots() {
		if !May(d) {
			t.Errorf("May(%v) = false", d)
		}
	}
	for _, d := range wrongDots() {
		if May(d) {
			t.Errorf("May(%v) = true", d)
		}
	}
}

// Do1: by Rep, then by Seq; one is not ahead of itself.
func TestLess(t *testing.T) {
	l := rightDots()
	for i, a := range l {
		for k, b := range l {
			if got := Less(a, b); got != (i < k) {
				t.Errorf("Less(%v, %v) = %v", a, b, got)
			}
		}
	}
}

// Do1: dots that may not be are in order by their numbers, too, however great these are.
func TestLessWrong(t *testing.T) {
	l := []api.Dot{
		dot(math.MinInt, math.MaxInt), dot(-1, 1), dot(0, math.MinInt), dot(0, 0), dot(0, 9), dot(1, math.MinInt), dot(1, -1), dot(1, 1),
		dot(1, most+1), dot(1, math.MaxInt), dot(6, 0), dot(1<<32, 1), dot(math.MaxInt, math.MinInt), dot(math.MaxInt, math.MaxInt),
	}
	for i, a := range l {
		for k, b := range l {
			if got := Less(a, b); got != (i < k) {
				t.Errorf("Less(%v, %v) = %v", a, b, got)
			}
		}
	}
}

// Do1: what may be, and what may not, for each reason.
func TestCheck(t *testing.T) {
	for _, s := range rightSeens() {
		if e := Check(s); e != api.OK {
			t.Errorf("Check(%v) = %d", s, e)
		}
	}
	for _, s := range wrongSeens() {
		if e := Check(s); e != api.ErrArg {
			t.Errorf("Check(%v) = %d", s, e)
		}
	}
}

// Do1: a dot of More against each of Upto's numbers, near by.
func TestCheckNear(t *testing.T) {
	for rep := 1; rep <= 5; rep++ {
		for n := range 6 {
			for seq := 1; seq <= 9; seq++ {
				upto := api.Clock{1, 1, 1, 1, 1}
				upto[rep-1] = n
				if n == 0 && rep == 5 {
					upto = upto[:4]
				}
				if e := Check(seen(upto, dot(rep, seq))); (e == api.OK) != (seq > n+1) {
					t.Errorf("Check(%v, %d.%d) = %d", upto, rep, seq, e)
				}
			}
		}
	}
}

// Do1: up to Upto's number, and those of More; none that may not be.
func TestHas(t *testing.T) {
	for _, s := range rightSeens() {
		l := slices.Concat(rightDots(), wrongDots(), universe(), s.More[:min(len(s.More), 20)])
		for _, d := range l {
			for _, near := range []api.Dot{d, dot(d.Rep, d.Seq+1), dot(d.Rep, d.Seq-1), dot(d.Rep%5+1, d.Seq)} {
				if got := Has(s, near); got != isSeen(s, near) {
					t.Errorf("Has(%v, %v) = %v", s, near, got)
				}
			}
		}
	}
	s := seen(api.Clock{3}, dot(1, 5), dot(2, 2))
	for d, want := range map[api.Dot]bool{
		dot(1, 0): false, dot(1, 1): true, dot(1, 3): true, dot(1, 4): false, dot(1, 5): true, dot(1, 6): false, dot(2, 1): false,
		dot(2, 2): true, dot(2, 0): false, dot(3, 1): false, dot(1, -1): false, dot(0, 1): false, dot(-1, 1): false, dot(6, 1): false,
	} {
		if got := Has(s, d); got != want {
			t.Errorf("Has(%v, %v) = %v", s, d, got)
		}
	}
}

// Do1: nothing is seen of what may not be.
func TestHasWrong(t *testing.T) {
	for _, s := range wrongSeens() {
		for _, d := range slices.Concat(universe(), rightDots(), s.More[:min(len(s.More), 5)]) {
			if Has(s, d) {
				t.Errorf("Has(%v, %v) = true", s, d)
			}
		}
	}
}

// Do1: none, one, one twice, one that is seen already, one that fills a gap.
func TestAdd(t *testing.T) {
	for _, s := range rightSeens() {
		wantAdd(t, s, nil, s)
		wantAdd(t, s, []api.Dot{}, s)
		wantAdd(t, s, s.More, s)
	}
	for _, c := range []struct {
		to   api.Seen
		l    []api.Dot
		want api.Seen
	}{
		{api.Seen{}, []api.Dot{dot(1, 1)}, seen(api.Clock{1})},
		{api.Seen{}, []api.Dot{dot(3, 1)}, seen(api.Clock{0, 0, 1})},
		{api.Seen{}, []api.Dot{dot(5, most)}, seen(nil, dot(5, most))},
		{api.Seen{}, []api.Dot{dot(1, 3), dot(1, 1)}, seen(api.Clock{1}, dot(1, 3))},
		{api.Seen{}, []api.Dot{dot(2, 1), dot(2, 1)}, seen(api.Clock{0, 1})},
		{api.Seen{}, []api.Dot{dot(2, 2), dot(2, 2)}, seen(nil, dot(2, 2))},
		{api.Seen{}, []api.Dot{dot(2, 2), dot(1, 9), dot(2, 2), dot(1, 9)}, seen(nil, dot(1, 9), dot(2, 2))},
		{seen(api.Clock{4}), []api.Dot{dot(1, 1), dot(1, 4)}, seen(api.Clock{4})},
		{seen(api.Clock{4}), []api.Dot{dot(1, 5)}, seen(api.Clock{5})},
		{seen(api.Clock{4}), []api.Dot{dot(1, 6)}, seen(api.Clock{4}, dot(1, 6))},
		{seen(api.Clock{4}, dot(1, 6)), []api.Dot{dot(1, 6)}, seen(api.Clock{4}, dot(1, 6))},
		{seen(api.Clock{4}, dot(1, 6)), []api.Dot{dot(1, 5)}, seen(api.Clock{6})},
		{seen(nil, dot(1, 2), dot(1, 3), dot(1, 4), dot(1, 6), dot(2, 2)), []api.Dot{dot(1, 1)}, seen(api.Clock{4}, dot(1, 6), dot(2, 2))},
		{seen(nil, dot(1, 2), dot(2, 2), dot(5, 2)), []api.Dot{dot(5, 1), dot(1, 1), dot(2, 1)}, seen(api.Clock{2, 2, 0, 0, 2})},
		{seen(api.Clock{most - 2}, dot(1, most)), []api.Dot{dot(1, most-1)}, seen(api.Clock{most})},
		{seen(api.Clock{most - 1}), []api.Dot{dot(1, most), dot(1, most)}, seen(api.Clock{most})},
		{seen(api.Clock{most}), []api.Dot{dot(1, most), dot(2, most)}, seen(api.Clock{most}, dot(2, most))},
		{seen(api.Clock{1}, dot(1, 3), dot(4, 7)), []api.Dot{dot(3, 9), dot(4, 6), dot(1, 9)}, seen(api.Clock{1}, dot(1, 3), dot(1, 9), dot(3, 9), dot(4, 6), dot(4, 7))},
	} {
		wantAdd(t, c.to, c.l, c.want)
	}
}

// Do1: what may not be, of s or of l, wherever it stands, and though there is no room either.
func TestAddWrong(t *testing.T) {
	for _, s := range wrongSeens() {
		for _, l := range [][]api.Dot{nil, {dot(1, 1)}, {dot(1, 1), dot(1, 2), dot(1, 3)}, {dot(0, 0)}, odd(4, 1001)} {
			noAdd(t, s, l, api.ErrArg)
		}
	}
	for _, d := range wrongDots() {
		for _, l := range [][]api.Dot{{d}, {dot(1, 1), d}, {d, dot(1, 1)}, {dot(1, 2), d, dot(3, 4)}, append(odd(4, 1001), d)} {
			noAdd(t, api.Seen{}, l, api.ErrArg)
			noAdd(t, seen(api.Clock{1, 2}, dot(3, 3)), l, api.ErrArg)
		}
	}
}

// Do1: room for 1000 of More to the last, and one beyond; dots that are, or go, into Upto take none.
func TestAddFull(t *testing.T) {
	all, fewer := seen(nil, odd(2, 1000)...), seen(nil, odd(2, 999)...)
	last := odd(2, 1000)[999]
	wantAdd(t, api.Seen{}, odd(2, 1000), all)
	wantAdd(t, fewer, []api.Dot{last}, all)
	wantAdd(t, fewer, []api.Dot{last, last, dot(2, 3)}, all)
	noAdd(t, fewer, []api.Dot{last, dot(1, 2)}, api.ErrFull)
	noAdd(t, api.Seen{}, odd(2, 1001), api.ErrFull)
	noAdd(t, api.Seen{}, odd(2, 4000), api.ErrFull)
	for _, d := range []api.Dot{dot(1, 2), dot(2, 2), dot(2, 4), dot(2, most), dot(5, most)} {
		noAdd(t, all, []api.Dot{d}, api.ErrFull)
	}
	wantAdd(t, all, odd(2, 1000), all)
	wantAdd(t, all, []api.Dot{dot(1, 1)}, seen(api.Clock{1}, all.More...))
	wantAdd(t, all, []api.Dot{dot(2, 1)}, seen(api.Clock{0, 1}, all.More...))
	noAdd(t, all, []api.Dot{dot(2, 1), dot(3, 2)}, api.ErrFull)
	wantAdd(t, all, []api.Dot{dot(2, 2), dot(2, 1)}, seen(api.Clock{0, 3}, all.More[1:]...))
	wantAdd(t, all, []api.Dot{dot(3, 2), dot(2, 2), dot(2, 1)}, seen(api.Clock{0, 3}, append(slices.Clone(all.More[1:]), dot(3, 2))...))
	noAdd(t, all, []api.Dot{dot(3, 2), dot(2, 2), dot(2, 1), dot(3, 3)}, api.ErrFull)
}

// Do1: many of More go into Upto at once, more of them than More has room for, too.
func TestAddGap(t *testing.T) {
	var even, long []api.Dot
	for i := range 1001 {
		even = append(even, dot(2, 2+2*i))
	}
	for seq := 3000; seq >= 2; seq-- {
		long = append(long, dot(4, seq))
	}
	all := seen(nil, odd(2, 1000)...)
	wantAdd(t, all, append(even, dot(2, 1)), seen(api.Clock{0, 2002}))
	wantAdd(t, all, append(slices.Clone(even[:400]), dot(2, 1)), seen(api.Clock{0, 801}, all.More[400:]...))
	noAdd(t, all, even, api.ErrFull)
	noAdd(t, api.Seen{}, long, api.ErrFull)
	wantAdd(t, api.Seen{}, append(long, dot(4, 1)), seen(api.Clock{0, 0, 0, 3000}))
	var whole []api.Dot
	for seq := 1; seq <= most; seq++ {
		whole = append(whole, dot(5, seq))
	}
	wantAdd(t, api.Seen{}, whole, seen(api.Clock{0, 0, 0, 0, most}))
}

// Do1 and Do3: each set of dots, put to each other one, is the one Seen that both are.
func TestAddSets(t *testing.T) {
	for a := range 1 << 8 {
		wantAdd(t, api.Seen{}, chosen(a), made(chosen(a)))
		for b := range 1 << 8 {
			wantAdd(t, made(chosen(a)), chosen(b), made(chosen(a|b)))
		}
	}
}

// orders calls f with each order of l.
func orders(l []api.Dot, from int, f func([]api.Dot)) {
	if from == len(l) {
		f(l)
		return
	}
	for i := from; i < len(l); i++ {
		l[from], l[i] = l[i], l[from]
		orders(l, from+1, f)
		l[from], l[i] = l[i], l[from]
	}
}

// Do3: dots one by one, or all at once, in every order.
func TestEveryOrder(t *testing.T) {
	for _, l := range [][]api.Dot{
		{dot(1, 1), dot(1, 2), dot(1, 3), dot(1, 4), dot(2, 1), dot(2, 2)},
		{dot(1, 1), dot(1, 2), dot(1, 4), dot(1, 5), dot(5, 1), dot(3, 7)},
		{dot(2, 2), dot(2, 3), dot(2, 5), dot(4, 2), dot(4, 1), dot(2, 2)},
		{dot(1, 1), dot(2, 1), dot(3, 1), dot(4, 1), dot(5, 1), dot(5, 2)},
	} {
		want := made(l)
		orders(l, 0, func(l []api.Dot) {
			wantAdd(t, api.Seen{}, l, want)
			var s api.Seen
			for _, d := range l {
				s, _ = Add(s, d)
			}
			if !alike(s, want) {
				t.Errorf("%v one by one = %v, want %v", l, s, want)
			}
		})
	}
}

// Do2: by hand, either way round.
func TestJoin(t *testing.T) {
	for _, c := range []struct{ a, b, want api.Seen }{
		{api.Seen{}, api.Seen{}, api.Seen{}},
		{api.Seen{}, seen(api.Clock{1}, dot(1, 3)), seen(api.Clock{1}, dot(1, 3))},
		{seen(api.Clock{1}), seen(api.Clock{0, 2}), seen(api.Clock{1, 2})},
		{seen(api.Clock{5}), seen(api.Clock{1}, dot(1, 3), dot(1, 5)), seen(api.Clock{5})},
		{seen(api.Clock{5}), seen(api.Clock{1}, dot(1, 3), dot(1, 6)), seen(api.Clock{6})},
		{seen(api.Clock{5}), seen(api.Clock{1}, dot(1, 3), dot(1, 7)), seen(api.Clock{5}, dot(1, 7))},
		{seen(nil, dot(1, 2)), seen(api.Clock{1}), seen(api.Clock{2})},
		{seen(nil, dot(1, 2), dot(1, 4)), seen(api.Clock{1}, dot(1, 3)), seen(api.Clock{4})},
		{seen(nil, dot(2, 3), dot(4, 2)), seen(nil, dot(1, 2), dot(2, 3), dot(3, 9)), seen(nil, dot(1, 2), dot(2, 3), dot(3, 9), dot(4, 2))},
		{seen(api.Clock{most - 2}, dot(1, most)), seen(api.Clock{most - 1}), seen(api.Clock{most})},
		{seen(api.Clock{most, most, most, most, most}), seen(nil, odd(2, 1000)...), seen(api.Clock{most, most, most, most, most})},
	} {
		wantJoin(t, c.a, c.b, c.want)
	}
}

// Do2: each set of dots with each other one.
func TestJoinSets(t *testing.T) {
	for a := range 1 << 8 {
		for b := range 1 << 8 {
			wantJoin(t, made(chosen(a)), made(chosen(b)), made(chosen(a|b)))
		}
	}
}

// Do2: what may not be, on either side, though there is no room either.
func TestJoinWrong(t *testing.T) {
	for _, s := range wrongSeens() {
		noJoin(t, s, s, api.ErrArg)
		for _, right := range rightSeens() {
			noJoin(t, s, right, api.ErrArg)
		}
	}
}

// Do2: room for 1000 of More to the last, and one beyond.
func TestJoinFull(t *testing.T) {
	all, fewer := seen(nil, odd(2, 1000)...), seen(nil, odd(2, 999)...)
	wantJoin(t, all, all, all)
	wantJoin(t, fewer, seen(nil, odd(2, 1000)[999]), all)
	wantJoin(t, fewer, seen(nil, dot(1, 2)), seen(nil, append([]api.Dot{dot(1, 2)}, fewer.More...)...))
	wantJoin(t, seen(nil, odd(3, 500)...), seen(nil, odd(4, 500)...), seen(nil, append(odd(3, 500), odd(4, 500)...)...))
	noJoin(t, seen(nil, odd(3, 500)...), seen(nil, odd(4, 501)...), api.ErrFull)
	noJoin(t, all, seen(nil, dot(1, 2)), api.ErrFull)
	noJoin(t, all, seen(nil, dot(2, 4)), api.ErrFull)
	noJoin(t, all, seen(nil, odd(1, 1000)...), api.ErrFull)
	wantJoin(t, all, seen(api.Clock{7}), seen(api.Clock{7}, all.More...))
	wantJoin(t, all, seen(api.Clock{0, 2}, dot(3, 2)), seen(api.Clock{0, 3}, append(slices.Clone(all.More[1:]), dot(3, 2))...))
	wantJoin(t, all, seen(api.Clock{0, most}, odd(5, 1000)...), seen(api.Clock{0, most}, odd(5, 1000)...))
}

// Do2: each set of dots with each other one.
func TestLacksAndSameSets(t *testing.T) {
	for a := range 1 << 8 {
		for b := range 1 << 8 {
			x, y := made(chosen(a)), made(chosen(b))
			if got := Lacks(x, y); got != (b&^a != 0) {
				t.Errorf("Lacks(%v, %v) = %v", x, y, got)
			}
			if got := Same(x, y); got != (a == b) {
				t.Errorf("Same(%v, %v) = %v", x, y, got)
			}
		}
	}
}

// Do2: by hand, with great numbers, and with as many as there are at most.
func TestLacks(t *testing.T) {
	all, fewer := seen(nil, odd(2, 1000)...), seen(nil, odd(2, 999)...)
	for _, c := range []struct {
		a, b api.Seen
		want bool
	}{
		{api.Seen{}, api.Seen{}, false},
		{api.Seen{}, seen(api.Clock{1}), true},
		{seen(api.Clock{1}), api.Seen{}, false},
		{seen(api.Clock{1}), seen(api.Clock{0, 1}), true},
		{api.Seen{}, seen(nil, dot(5, most)), true},
		{seen(nil, dot(5, most)), seen(nil, dot(5, most)), false},
		{seen(api.Clock{0, 0, 0, 0, most}), seen(nil, dot(5, most)), false},
		{seen(nil, dot(5, most)), seen(api.Clock{0, 0, 0, 0, most}), true},
		{seen(nil, dot(1, 2), dot(1, 3)), seen(api.Clock{3}), true},
		{seen(api.Clock{3}), seen(nil, dot(1, 2), dot(1, 3)), false},
		{seen(api.Clock{3}), seen(nil, dot(1, 2), dot(1, 4)), true},
		{all, fewer, false}, {fewer, all, true}, {all, all, false},
		{all, seen(nil, dot(2, 4)), true}, {seen(api.Clock{0, 2000}), fewer, false}, {seen(api.Clock{0, 2000}), all, true}, {seen(api.Clock{0, 2001}), all, false},
	} {
		if got := Lacks(c.a, c.b); got != c.want {
			t.Errorf("Lacks(%v, %v) = %v", c.a, c.b, got)
		}
	}
}

// Do2: nothing is lacking where one may not be.
func TestLacksWrong(t *testing.T) {
	for _, s := range wrongSeens() {
		if Lacks(s, s) {
			t.Errorf("Lacks(%v, itself) = true", s)
		}
		for _, right := range rightSeens() {
			if Lacks(s, right) || Lacks(right, s) {
				t.Errorf("Lacks of %v and %v = true", s, right)
			}
		}
	}
}

// Do2: alike are those whose lists are alike; an empty list, and none, are the same.
func TestSame(t *testing.T) {
	l := append(rightSeens(), wrongSeens()...)
	for _, a := range l {
		if !Same(a, copied(a)) {
			t.Errorf("Same(%v, a copy) = false", a)
		}
		for _, b := range l {
			if got := Same(a, b); got != alike(a, b) {
				t.Errorf("Same(%v, %v) = %v", a, b, got)
			}
		}
	}
	if !Same(api.Seen{}, api.Seen{Upto: api.Clock{}, More: []api.Dot{}}) || !Same(api.Seen{More: []api.Dot{}}, api.Seen{Upto: api.Clock{}}) {
		t.Error("nothing is not the same as nothing")
	}
	for _, c := range []struct{ a, b api.Seen }{
		{api.Seen{}, seen(api.Clock{1})}, {seen(api.Clock{1}), seen(api.Clock{2})}, {seen(api.Clock{1}), seen(api.Clock{0, 1})},
		{seen(api.Clock{1}), seen(api.Clock{1}, dot(1, 3))}, {seen(nil, dot(1, 3)), seen(nil, dot(3, 1))}, {seen(nil, dot(1, 3)), seen(nil, dot(1, 3), dot(1, 5))},
		{seen(api.Clock{1}), seen(api.Clock{1, 0})}, {api.Seen{}, seen(api.Clock{-1})}, {api.Seen{}, seen(make(api.Clock, 6))}, {seen(api.Clock{-1}), seen(api.Clock{-2})},
	} {
		if Same(c.a, c.b) || Same(c.b, c.a) {
			t.Errorf("Same(%v, %v) = true", c.a, c.b)
		}
	}
}

// Do1: none, one, many, those that are there more than once, and those that may not be.
func TestOrder(t *testing.T) {
	for _, c := range []struct{ of, want []api.Dot }{
		{nil, nil},
		{[]api.Dot{}, nil},
		{[]api.Dot{dot(3, 4)}, []api.Dot{dot(3, 4)}},
		{[]api.Dot{dot(3, 4), dot(3, 4)}, []api.Dot{dot(3, 4)}},
		{[]api.Dot{dot(2, 1), dot(1, 2)}, []api.Dot{dot(1, 2), dot(2, 1)}},
		{[]api.Dot{dot(1, 2), dot(1, 1)}, []api.Dot{dot(1, 1), dot(1, 2)}},
		{[]api.Dot{dot(2, 2), dot(1, 9), dot(2, 2), dot(2, 1), dot(1, 9), dot(2, 2)}, []api.Dot{dot(1, 9), dot(2, 1), dot(2, 2)}},
		{[]api.Dot{dot(6, 1), dot(0, 0), dot(1, -1), dot(1, most+1), dot(-1, 3), dot(0, 0)}, []api.Dot{dot(-1, 3), dot(0, 0), dot(1, -1), dot(1, most+1), dot(6, 1)}},
	} {
		if got := Order(c.of); !slices.Equal(got, c.want) {
			t.Errorf("Order(%v) = %v, want %v", c.of, got, c.want)
		}
	}
	want := append(odd(1, 2000), rightDots()[6:]...)
	mixed := slices.Concat(want, want)
	seed := uint32(7)
	for i := range mixed {
		seed = seed*1664525 + 1013904223
		k := i + int(seed>>8)%(len(mixed)-i)
		mixed[i], mixed[k] = mixed[k], mixed[i]
	}
	if got := Order(mixed); !slices.Equal(got, want) {
		t.Errorf("Order of %d dots has %d", len(mixed), len(got))
	}
}

// Do1: every order of a few dots, two of them the same.
func TestOrderEveryOrder(t *testing.T) {
	want := []api.Dot{dot(1, 2), dot(1, 3), dot(2, 1), dot(5, 1), dot(5, most)}
	orders(append(slices.Clone(want), dot(2, 1)), 0, func(l []api.Dot) {
		if got := Order(l); !slices.Equal(got, want) {
			t.Errorf("Order(%v) = %v", l, got)
		}
	})
}

// spaced is a copy of a list with more behind it, so that what is written there is seen.
func spaced[T any](l []T, behind T) (list, room []T) {
	room = append(slices.Clone(l), behind, behind, behind)
	return room[:len(l)], room
}

// R3: what is handed in, and what stands behind it, stays as it is, and what is told is new memory.
func TestNewMemory(t *testing.T) {
	for _, s := range append(rightSeens(), wrongSeens()...) {
		upto, uptoRoom := spaced(s.Upto, 77)
		more, moreRoom := spaced(s.More, dot(3, 77))
		given, givenRoom := spaced([]api.Dot{dot(4, 9), dot(1, 1), dot(4, 9), dot(1, 2)}, dot(3, 77))
		uptoWas, moreWas, givenWas := slices.Clone(uptoRoom), slices.Clone(moreRoom), slices.Clone(givenRoom)
		a := api.Seen{Upto: upto, More: more}
		Check(a)
		Has(a, dot(1, 1))
		Lacks(a, a)
		Same(a, a)
		for _, got := range answers(a, given) {
			clear(got.Upto)
			clear(got.More)
			_ = append(got.Upto, 60)
			_ = append(got.More, dot(2, 60))
		}
		if !slices.Equal(uptoRoom, uptoWas) || !slices.Equal(moreRoom, moreWas) || !slices.Equal(givenRoom, givenWas) {
			t.Errorf("%v became %v, %v, %v", s, uptoRoom, moreRoom, givenRoom)
		}
	}
}

// answers are what each function tells of a and l as lists.
func answers(a api.Seen, l []api.Dot) []api.Seen {
	none, _ := Add(a)
	added, _ := Add(a, l...)
	joined, _ := Join(a, a)
	alone, _ := Join(a, api.Seen{})
	behind, _ := Join(api.Seen{}, a)
	return []api.Seen{none, added, joined, alone, behind, {More: Order(l)}, {More: Order(a.More)}}
}

// R3 and R4: what is told stays as it is, whatever is done to what was handed in, or to what was told ahead.
func TestAnswersApart(t *testing.T) {
	a, l := seen(api.Clock{2, 1}, dot(1, 5), dot(3, 4)), []api.Dot{dot(3, 1), dot(2, 9)}
	first, again := answers(a, l), answers(a, l)
	var wants []api.Seen
	for _, s := range again {
		wants = append(wants, copied(s))
	}
	for _, s := range append(first, a, api.Seen{More: l}) {
		clear(s.Upto)
		clear(s.More)
	}
	for i, got := range again {
		if !alike(got, wants[i]) {
			t.Errorf("answer %d became %v", i, got)
		}
	}
}
