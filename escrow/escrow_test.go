package escrow

import (
	"fmt"
	"maps"
	"math"
	"slices"
	"strings"
	"testing"

	"huckster/api"
)

// most is the greatest number that a replica has; the least one is -most.
const most = 1 << 40

// account is a key, and what the first replicas have, in short.
func account(key string, have ...int) api.Account {
	x := api.Account{Key: key}
	copy(x.Have[:], have)
	return x
}

// of is a key of which one replica alone has something.
func of(key string, rep, n int) api.Account {
	x := api.Account{Key: key}
	x.Have[rep-1] = n
	return x
}

// list is accounts in short.
func list(l ...api.Account) []api.Account { return l }

func manyKey(i int) string { return fmt.Sprintf("%04d", i) }

// many is accounts of n keys of 4 bytes each, every second number, so that there are keys ahead of, between and behind them; each is of one replica alone, above or below 0.
func many(n int) []api.Account {
	var l []api.Account
	for i := range n {
		l = append(l, of(manyKey(2*i+1), 1+i%api.MaxReps, (i+1)*(1-i%2*2)))
	}
	return l
}

// text is all that accounts have, as a text.
func text(l []api.Account) string {
	var b strings.Builder
	for _, x := range l {
		fmt.Fprintf(&b, "%q %v;", x.Key, x.Have)
	}
	return b.String()
}

// hold tells whether an answer is the accounts that are asked for, without the package's own functions.
func hold(t *testing.T, what string, got []api.Account, e api.Errno, want []api.Account) {
	t.Helper()
	if e != api.OK || !slices.Equal(got, want) {
		t.Errorf("%s: got %s, %d, want %s", what, text(got), e, text(want))
	}
}

// refuse tells whether an answer is an error, and nothing beside it.
func refuse(t *testing.T, what string, got []api.Account, e, want api.Errno) {
	t.Helper()
	if e != want || len(got) != 0 {
		t.Errorf("%s: got %s, %d, want nothing, %d", what, text(got), e, want)
	}
}

// rightKeys are keys that may be.
func rightKeys() []string {
	return []string{"k", "\x00", "\xff", "\xff\xfe\x80", "kk", "é", strings.Repeat("k", 31), strings.Repeat("k", 32), strings.Repeat("\x80", 32), strings.Repeat("é", 16)}
}

// wrongKeys are keys that may not be.
func wrongKeys() []string {
	return []string{"", strings.Repeat("k", 33), strings.Repeat("\x00", 33), strings.Repeat("é", 17), strings.Repeat("k", 5000)}
}

// rightReps are replicas that may be: all of them.
func rightReps() []int { return []int{1, 2, 3, 4, 5} }

// wrongReps are replicas that may not be.
func wrongReps() []int {
	return []int{0, 6, -1, -5, 7, 1 << 32, 1<<32 + 1, -1 << 32, math.MaxInt, math.MinInt, math.MinInt + 1}
}

// rightNumbers are numbers other than 0 that a replica may have.
func rightNumbers() []int {
	return []int{1, -1, 2, 1000, 1001, -1000, -1001, 1 << 31, 1 << 32, -1 << 32, most - 1, most, -most + 1, -most}
}

// wrongNumbers are numbers that no replica may have.
func wrongNumbers() []int {
	return []int{most + 1, -most - 1, 2 * most, -2 * most, math.MaxInt, math.MinInt, math.MinInt + 1}
}

// rightAmounts are amounts by which a replica may go up, but for 0.
func rightAmounts() []int { return []int{1, -1, 2, -2, 999, 1000, -999, -1000} }

// wrongAmounts are amounts by which no replica may go up.
func wrongAmounts() []int {
	return []int{1001, -1001, 1 << 32, -1 << 32, 1<<32 + 1, most, -most, math.MaxInt, math.MinInt, math.MinInt + 1}
}

// rightMoves are amounts that may be moved.
func rightMoves() []int { return []int{1, 2, 999, 1000} }

// wrongMoves are amounts that may not be moved.
func wrongMoves() []int { return append(wrongAmounts(), 0, -1, -2, -999, -1000) }

// rightFloors are floors that may be.
func rightFloors() []int { return []int{0, -1, -5, -999, -1000} }

// wrongFloors are floors that may not be.
func wrongFloors() []int {
	return []int{1, -1001, 2, 1000, 1 << 32, -1 << 32, -1<<32 - 1, math.MaxInt, math.MinInt, math.MinInt + 1}
}

// rightAccounts are accounts that may be, no two of them alike but the first two.
func rightAccounts() [][]api.Account {
	l := [][]api.Account{
		nil, {}, many(1), many(2), many(3), many(3999), many(4000),
		list(account("a", 1), account("b", 1)), list(account("a", 2), account("b", 1)), list(account("a", -1), account("b", 1)), list(account("a", 0, 1), account("b", 1)),
		list(account("a", 1), account("aa", 2), account("b", 3)), list(account("Z", 1), account("a", 2)),
		list(account("\x00", 1), account("\x00\x00", 2), account("\x7f", 3), account("\x80", 4), account("\xff", 5)),
		list(account(strings.Repeat("k", 31), 1), account(strings.Repeat("k", 32), 1)),
		// All together 0, yet some have something.
		list(account("k", 1, -1)), list(account("k", 0, 0, most, 0, -most)), list(account("k", 4, -1, -1, -1, -1)),
		list(account("k", most, most, most, most, most)), list(account("k", -most, -most, -most, -most, -most)), list(account("k", 1, 2, 3, 4, 5)),
	}
	for _, k := range rightKeys() {
		l = append(l, list(account(k, 7)))
	}
	for _, n := range rightNumbers() {
		for _, rep := range rightReps() {
			l = append(l, list(of("k", rep, n)))
		}
	}
	return l
}

// wrongHaves are accounts of which one may not be for what replicas have.
func wrongHaves() [][]api.Account {
	l := [][]api.Account{list(account("k")), list(account("a", 1), account("k")), list(account("k"), account("z", 1)), list(account("a", 1), account("k"), account("z", 1))}
	for _, n := range wrongNumbers() {
		for _, rep := range rightReps() {
			x := of("k", rep, n)
			y := account("k", 1, 2, 3, 4, 5)
			y.Have[rep-1] = n
			l = append(l, list(x), list(y), list(account("a", 1), x), list(x, account("z", 1)), list(account("a", 1), y, account("z", 1)))
		}
	}
	return l
}

// wrongAccounts are accounts that may not be, each for one reason alone, but for those of zero values.
func wrongAccounts() [][]api.Account {
	a, b, c := account("a", 1), account("b", 2), account("c", 3)
	l := [][]api.Account{
		// Too many keys.
		many(4001), many(4999),
		// Keys that are the same, or do not rise.
		list(a, a), list(a, account("a", 2)), list(a, account("a", -1)), list(a, account("a", 0, 1)), list(b, a),
		list(a, c, b), list(b, a, c), list(a, b, b), list(a, b, a),
		list(account("aa", 1), a), list(a, account("Z", 2)), list(account("\x80", 1), account("\x7f", 2)), list(account("\xff", 1), account("é", 2)),
		// Keys that rise, one of which is of no bytes, or too long.
		list(account("", 1), a), list(a, account(strings.Repeat("k", 33), 2)), list(a, account(strings.Repeat("k", 33), 2), account("z", 3)),
		// Zero values.
		list(api.Account{}), list(a, api.Account{}), list(api.Account{}, a),
	}
	for _, k := range wrongKeys() {
		l = append(l, list(account(k, 1)))
	}
	return append(l, wrongHaves()...)
}

// someKeys are keys of accounts, and some that may be there or not; of many keys some alone.
func someKeys(l []api.Account) []string {
	keys := []string{"a", "k", "z", "new", "0", "0000", "0001", "0002", "4000", "7999", "8000", "\x00\x00\x00", "\xff\xff"}
	for i := 0; i < len(l); i += 1 + len(l)/20 {
		keys = append(keys, l[i].Key)
	}
	slices.Sort(keys)
	return slices.Compact(keys)
}

// Es1: Check tells whether accounts may be.
func TestCheck(t *testing.T) {
	for i, l := range rightAccounts() {
		if e := Check(l); e != api.OK {
			t.Errorf("right accounts %d: got %d", i, e)
		}
	}
	for i, l := range wrongAccounts() {
		if e := Check(l); e != api.ErrArg {
			t.Errorf("wrong accounts %d: got %d", i, e)
		}
	}
	// The last one of 4000 is looked at too.
	for _, x := range []api.Account{account("9999"), of("9999", 5, most+1), of("9999", 1, -most-1), account("0000", 1), account("", 1), account(strings.Repeat("9", 33), 1)} {
		l := many(4000)
		l[3999] = x
		if e := Check(l); e != api.ErrArg {
			t.Errorf("the last one is %s: got %d", text(list(x)), e)
		}
	}
}

// tight are accounts to which more is too much: what may not be is told ahead of it.
func tight() [][]api.Account {
	return [][]api.Account{nil, {}, list(account("k", 1)), list(account("k", most, most, most, most, most)), list(account("k", -most, -most, -most, -most, -most)), many(3999), many(4000)}
}

// Es1: Up answers ErrArg, and no accounts, where the accounts, the key, the replica or the amount may not be.
func TestUpWrongArguments(t *testing.T) {
	for i, l := range wrongAccounts() {
		for _, n := range []int{0, 1, -1, 1000, -1000} {
			for _, k := range []string{"a", "k", "n"} {
				got, e := Up(l, k, 1+i%5, n)
				refuse(t, fmt.Sprintf("wrong accounts %d, %q %d", i, k, n), got, e, api.ErrArg)
			}
		}
	}
	for i, l := range tight() {
		for _, n := range []int{0, 1, -1, 1000, -1000} {
			for _, k := range wrongKeys() {
				got, e := Up(l, k, 1+i%5, n)
				refuse(t, fmt.Sprintf("accounts %d, key %q", i, k), got, e, api.ErrArg)
			}
			for _, rep := range wrongReps() {
				got, e := Up(l, "k", rep, n)
				refuse(t, fmt.Sprintf("accounts %d, replica %d", i, rep), got, e, api.ErrArg)
			}
		}
		for _, n := range wrongAmounts() {
			for _, k := range []string{"k", "0001", "new"} {
				got, e := Up(l, k, 1+i%5, n)
				refuse(t, fmt.Sprintf("accounts %d, %q %d", i, k, n), got, e, api.ErrArg)
			}
		}
	}
}

// Es1: Move answers ErrArg, and no accounts, where the accounts, the key, one of the replicas or the amount may not be; to one's own, too.
func TestMoveWrongArguments(t *testing.T) {
	for i, l := range wrongAccounts() {
		for _, n := range []int{1, 1000} {
			for _, k := range []string{"a", "k", "n"} {
				for _, to := range []int{1, 2, 5} {
					got, e := Move(l, k, 1+i%5, to, n)
					refuse(t, fmt.Sprintf("wrong accounts %d, %q %d", i, k, n), got, e, api.ErrArg)
				}
			}
		}
	}
	for i, l := range tight() {
		for _, to := range rightReps() {
			for _, k := range wrongKeys() {
				got, e := Move(l, k, 2, to, 1)
				refuse(t, fmt.Sprintf("accounts %d, key %q to %d", i, k, to), got, e, api.ErrArg)
			}
			for _, n := range wrongMoves() {
				for _, k := range []string{"k", "0001", "new"} {
					got, e := Move(l, k, 2, to, n)
					refuse(t, fmt.Sprintf("accounts %d, %q %d to %d", i, k, n, to), got, e, api.ErrArg)
				}
			}
		}
		for _, rep := range wrongReps() {
			for _, other := range append(rightReps(), wrongReps()...) {
				got, e := Move(l, "k", rep, other, 1)
				refuse(t, fmt.Sprintf("accounts %d, of replica %d to %d", i, rep, other), got, e, api.ErrArg)
				got, e = Move(l, "k", other, rep, 1)
				refuse(t, fmt.Sprintf("accounts %d, of replica %d to %d", i, other, rep), got, e, api.ErrArg)
			}
		}
	}
}

// Es1: all keys, replicas and amounts that may be are taken, of a key that is there and of one that is not.
func TestUpRightArguments(t *testing.T) {
	for _, k := range rightKeys() {
		for _, rep := range rightReps() {
			for _, n := range rightAmounts() {
				what := fmt.Sprintf("%q of %d, %d", k, rep, n)
				for _, l := range [][]api.Account{nil, {}} {
					got, e := Up(l, k, rep, n)
					hold(t, what, got, e, list(of(k, rep, n)))
				}
				want := account(k, 5000, -5000, 0, 3, -7000)
				got, e := Up(list(want), k, rep, n)
				want.Have[rep-1] += n
				hold(t, what+" more", got, e, list(want))
			}
		}
	}
}

// Es1: all keys, replicas and amounts that may be are moved, of a key that is there and of one that is not, though there are no rights; to one's own nothing turns.
func TestMoveRightArguments(t *testing.T) {
	for _, k := range rightKeys() {
		for _, rep := range rightReps() {
			for _, to := range rightReps() {
				for _, n := range rightMoves() {
					what := fmt.Sprintf("%q of %d to %d, %d", k, rep, to, n)
					var want []api.Account
					if rep != to {
						want = list(of(k, rep, -n))
						want[0].Have[to-1] = n
					}
					for _, l := range [][]api.Account{nil, {}} {
						got, e := Move(l, k, rep, to, n)
						hold(t, what, got, e, want)
					}
					more := account(k, 5000, -5000, 0, 3, -7000)
					got, e := Move(list(more), k, rep, to, n)
					more.Have[rep-1] -= n
					more.Have[to-1] += n
					hold(t, what+" more", got, e, list(more))
				}
			}
		}
	}
}

// Es1: each of the accounts that may be takes an amount of each of its keys, and a move, that stay within the bounds.
func TestRightAccounts(t *testing.T) {
	for i, l := range rightAccounts() {
		for j := 0; j < len(l); j += 1 + len(l)/50 {
			high := slices.Index(l[j].Have[:], slices.Max(l[j].Have[:]))
			low := slices.Index(l[j].Have[:], slices.Min(l[j].Have[:]))
			want := slices.Clone(l)
			want[j].Have[high] -= 3
			got, e := fewer(l, l[j].Key, high+1, 3)
			if want[j].Have[high] >= -most {
				hold(t, fmt.Sprintf("right accounts %d, %q less", i, l[j].Key), got, e, plain(want))
			} else {
				refuse(t, fmt.Sprintf("right accounts %d, %q less", i, l[j].Key), got, e, api.ErrFull)
			}
			if low == high {
				continue
			}
			want[j].Have[low] += 3
			got, e = Move(l, l[j].Key, high+1, low+1, 3)
			hold(t, fmt.Sprintf("right accounts %d, %q moved", i, l[j].Key), got, e, plain(want))
		}
	}
}

// fewer is down: up by less than 0.
func fewer(l []api.Account, key string, rep, n int) ([]api.Account, api.Errno) {
	return Up(l, key, rep, -n)
}

// plain is accounts without those that have nothing.
func plain(l []api.Account) []api.Account {
	return slices.DeleteFunc(slices.Clone(l), func(x api.Account) bool { return slices.Max(x.Have[:]) == 0 && slices.Min(x.Have[:]) == 0 })
}

// Es1: a key that is not there is put where its bytes stand: ahead of all, between and behind all.
func TestNewKey(t *testing.T) {
	b, d := account("b", 7), account("d", 0, -7)
	for _, c := range []struct {
		key string
		at  int
	}{
		{"a", 0}, {"\x00", 0}, {"B", 0}, {"c", 1}, {"bb", 1}, {"b\x00", 1}, {"c\xff", 1}, {"e", 2}, {"dd", 2}, {"\x80", 2}, {"\xff", 2},
	} {
		got, e := Up(list(b, d), c.key, 3, 12)
		hold(t, fmt.Sprintf("%q up", c.key), got, e, slices.Insert(list(b, d), c.at, account(c.key, 0, 0, 12)))
		got, e = Up(list(b, d), c.key, 5, -12)
		hold(t, fmt.Sprintf("%q down", c.key), got, e, slices.Insert(list(b, d), c.at, account(c.key, 0, 0, 0, 0, -12)))
		got, e = Move(list(b, d), c.key, 4, 1, 12)
		hold(t, fmt.Sprintf("%q moved", c.key), got, e, slices.Insert(list(b, d), c.at, account(c.key, 12, 0, 0, -12)))
		got, e = Move(list(b, d), c.key, 4, 4, 12)
		hold(t, fmt.Sprintf("%q moved to one's own", c.key), got, e, list(b, d))
	}
}

// Es1: of a key that is there one replica has n more, or less, or some are moved; the others, and other keys, stay.
func TestKeyThatIsThere(t *testing.T) {
	l := list(account("a", 10, 20, 30, 40, 50), account("b", -10, -20, -30, -40, -50), account("c", 10, -10, 10, -10, 10))
	for _, n := range []int{1, 9, 11, 20, 1000} {
		for i, x := range l {
			for _, rep := range rightReps() {
				for _, by := range []int{n, -n} {
					want := slices.Clone(l)
					want[i].Have[rep-1] += by
					got, e := Up(l, x.Key, rep, by)
					hold(t, fmt.Sprintf("%q of %d, %d", x.Key, rep, by), got, e, want)
				}
				for _, to := range rightReps() {
					want := slices.Clone(l)
					want[i].Have[rep-1] -= n
					want[i].Have[to-1] += n
					got, e := Move(l, x.Key, rep, to, n)
					hold(t, fmt.Sprintf("%q of %d to %d, %d", x.Key, rep, to, n), got, e, want)
				}
			}
		}
	}
}

// Es1: an account is left out when all of its Have are 0, wherever it stands, and not as long as one is not; it may be put there again.
func TestLeftOut(t *testing.T) {
	l := list(of("a", 1, 1000), of("b", 2, -1000), of("c", 3, 1), of("d", 5, -1))
	for i, x := range l {
		rep := 1 + slices.IndexFunc(x.Have[:], func(n int) bool { return n != 0 })
		n := x.Have[rep-1]
		without := slices.Delete(slices.Clone(l), i, i+1)
		got, e := Up(l, x.Key, rep, -n)
		hold(t, "left out, "+x.Key, got, e, without)
		if Number(got, x.Key) != 0 || Rights(got, x.Key, rep, 0) != 0 {
			t.Errorf("%s has %d", x.Key, Number(got, x.Key))
		}
		got, e = Up(got, x.Key, rep, n)
		hold(t, "put again, "+x.Key, got, e, l)
		got, e = Up(list(x), x.Key, rep, -n)
		hold(t, "the only one, "+x.Key, got, e, nil)
		// Another replica that has as much less keeps it there, though its number is 0.
		other := 1 + rep%5
		want := slices.Clone(l)
		want[i].Have[other-1] = -n
		got, e = Up(l, x.Key, other, -n)
		hold(t, "0 in all, "+x.Key, got, e, want)
		back := []int{rep, other}
		if n < 0 {
			slices.Reverse(back)
		}
		got, e = Move(got, x.Key, back[0], back[1], max(n, -n))
		hold(t, "moved back, "+x.Key, got, e, without)
	}
	// One becomes 0, others stay.
	got, e := Up(list(account("k", 5, 6)), "k", 1, -5)
	hold(t, "one is 0", got, e, list(account("k", 0, 6)))
	got, e = Up(got, "k", 2, -6)
	hold(t, "all are 0", got, e, nil)
	got, e = Move(list(account("k", 5)), "k", 1, 5, 5)
	hold(t, "all moved", got, e, list(account("k", 0, 0, 0, 0, 5)))
}

// Es1: 0 more, and a move to one's own, leave all as it is: of a key that is there, and of one that is not.
func TestNothingTurns(t *testing.T) {
	for i, l := range rightAccounts() {
		for _, k := range someKeys(l) {
			for _, rep := range []int{1, 2, 5} {
				got, e := Up(l, k, rep, 0)
				hold(t, fmt.Sprintf("right accounts %d, %q of %d", i, k, rep), got, e, l)
				for _, n := range []int{1, 1000} {
					got, e = Move(l, k, rep, rep, n)
					hold(t, fmt.Sprintf("right accounts %d, %q of %d to its own, %d", i, k, rep, n), got, e, l)
				}
			}
		}
	}
}

// Es1: what a replica has goes up to 2^40 and down to -2^40, and not beyond, whatever stands beside it.
func TestUpBounds(t *testing.T) {
	for _, sign := range []int{1, -1} {
		for _, rep := range rightReps() {
			for _, c := range []struct{ from, n int }{
				{most - 1, 1}, {most - 1, 0}, {most, 0}, {most, -1}, {most, -1000}, {most - 1000, 1000}, {most - 999, 999}, {most - 1000, 999},
			} {
				from, n := c.from*sign, c.n*sign
				got, e := Up(list(account("a", 1), of("k", rep, from), account("z", 1)), "k", rep, n)
				hold(t, fmt.Sprintf("%d and %d", from, n), got, e, list(account("a", 1), of("k", rep, from+n), account("z", 1)))
			}
			for _, c := range []struct{ from, n int }{
				{most, 1}, {most, 1000}, {most - 1, 2}, {most - 1, 1000}, {most - 999, 1000}, {most - 998, 999},
			} {
				from, n := c.from*sign, c.n*sign
				got, e := Up(list(account("a", 1), of("k", rep, from), account("z", 1)), "k", rep, n)
				refuse(t, fmt.Sprintf("%d and %d", from, n), got, e, api.ErrFull)
				got, e = Up(list(of("k", rep, from)), "k", rep, n)
				refuse(t, fmt.Sprintf("%d and %d alone", from, n), got, e, api.ErrFull)
				got, e = Up(list(of("j", rep, from)), "k", rep, n)
				hold(t, fmt.Sprintf("%d of another key, and %d", from, n), got, e, list(of("j", rep, from), of("k", rep, n)))
				// Of another replica: the bound is of each, not of all together.
				want := of("k", rep, from)
				want.Have[rep%5] = n
				got, e = Up(list(of("k", rep, from)), "k", 1+rep%5, n)
				hold(t, fmt.Sprintf("%d of another replica, and %d", from, n), got, e, list(want))
			}
		}
	}
}

// Es1: neither of the two of a move goes beyond 2^40 or below -2^40.
func TestMoveBounds(t *testing.T) {
	for _, c := range []struct {
		rep, to, n int
		right      bool
	}{
		{0, most - 1, 1, true}, {0, most, 1, false}, {0, most - 1, 2, false}, {0, most - 1000, 1000, true}, {0, most - 999, 1000, false},
		{-most + 1, 0, 1, true}, {-most, 0, 1, false}, {-most + 1, 0, 2, false}, {-most + 1000, 0, 1000, true}, {-most + 999, 0, 1000, false},
		{most, -most, 1000, true}, {-most, most, 1, false}, {-most + 5, most - 5, 5, true}, {-most + 5, most - 5, 6, false}, {-most + 5, most - 4, 5, false}, {-most + 4, most - 5, 5, false},
		{most, most, 1, false}, {-most, -most, 1, false},
	} {
		for _, rep := range rightReps() {
			to := 1 + (rep+1)%5
			x := of("k", rep, c.rep)
			x.Have[to-1] = c.to
			got, e := Move(list(account("a", 1), x, account("z", 1)), "k", rep, to, c.n)
			what := fmt.Sprintf("%d of %d, %d of %d, %d", c.rep, rep, c.to, to, c.n)
			if !c.right {
				refuse(t, what, got, e, api.ErrFull)
				continue
			}
			x.Have[rep-1] -= c.n
			x.Have[to-1] += c.n
			hold(t, what, got, e, list(account("a", 1), x, account("z", 1)))
		}
	}
	for _, n := range []int{most, -most} {
		for _, rep := range rightReps() {
			for _, by := range []int{1, 1000} {
				got, e := Move(list(of("k", rep, n)), "k", rep, rep, by)
				hold(t, fmt.Sprintf("%d of %d to its own, %d", n, rep, by), got, e, list(of("k", rep, n)))
			}
		}
	}
}

// Es1: at 4000 keys one more is too many; those that are there take more, and one that is left out gives room.
func TestKeysBounds(t *testing.T) {
	full := many(4000)
	for _, k := range []string{"0", manyKey(0), manyKey(2), manyKey(4000), manyKey(8000), "k", "\xff"} {
		for _, n := range []int{1, -1, 1000, -1000} {
			got, e := Up(full, k, 2, n)
			refuse(t, fmt.Sprintf("one more, %q %d", k, n), got, e, api.ErrFull)
		}
		got, e := Move(full, k, 2, 3, 1)
		refuse(t, fmt.Sprintf("one more, %q moved", k), got, e, api.ErrFull)
		got, e = Up(full, k, 2, 0)
		hold(t, fmt.Sprintf("0 of one that is not there, %q", k), got, e, full)
		got, e = Move(full, k, 2, 2, 1000)
		hold(t, fmt.Sprintf("one that is not there to one's own, %q", k), got, e, full)
		almost := many(3999)
		at, _ := slices.BinarySearchFunc(almost, k, func(x api.Account, k string) int { return strings.Compare(x.Key, k) })
		got, e = Up(almost, k, 4, 9)
		hold(t, fmt.Sprintf("the last one that has room, %q", k), got, e, slices.Insert(many(3999), at, of(k, 4, 9)))
		got, e = Move(almost, k, 1, 2, 9)
		hold(t, fmt.Sprintf("the last one that has room, %q moved", k), got, e, slices.Insert(many(3999), at, account(k, -9, 9)))
	}
	for _, i := range []int{0, 1, 1999, 2000, 3998, 3999} {
		for _, n := range []int{1000, -1000, 0} {
			want := many(4000)
			want[i].Have[4] += n
			got, e := Up(full, full[i].Key, 5, n)
			hold(t, fmt.Sprintf("number %d of 4000, %d", i, n), got, e, plain(want))
		}
		want := many(4000)
		want[i].Have[4] -= 7
		want[i].Have[1] += 7
		got, e := Move(full, full[i].Key, 5, 2, 7)
		hold(t, fmt.Sprintf("number %d of 4000, moved", i), got, e, plain(want))
	}
	less, e := Up(full, full[0].Key, 1, -1)
	hold(t, "the first one left out", less, e, full[1:])
	got, e := Up(less, "z", 1, 5)
	hold(t, "another one then", got, e, append(slices.Clone(full[1:]), account("z", 5)))
	full[3999] = account(full[3999].Key, -3, 3)
	less, e = Move(full, full[3999].Key, 2, 1, 3)
	hold(t, "the last one left out", less, e, full[:3999])
}

// Es2: Number is all of a key's Have together, and a replica's rights its own, and, of the first one, as much as the floor is below 0; of a key that is not there likewise.
func TestNumberAndRights(t *testing.T) {
	for i, l := range rightAccounts() {
		has := map[string][api.MaxReps]int{}
		for _, x := range l {
			has[x.Key] = x.Have
		}
		for _, k := range slices.Concat(someKeys(l), rightKeys(), wrongKeys()) {
			sum := 0
			for _, rep := range rightReps() {
				n := has[k][rep-1]
				sum += n
				for _, floor := range []int{0, -5, -1000} {
					want := n
					if rep == 1 {
						want = n - floor
					}
					if got := Rights(l, k, rep, floor); got != want {
						t.Fatalf("right accounts %d, %q, replica %d, floor %d: got %d, want %d", i, k, rep, floor, got, want)
					}
				}
			}
			if got := Number(l, k); got != sum {
				t.Fatalf("right accounts %d, %q: got %d, want %d", i, k, got, sum)
			}
		}
	}
}

// Es2: Number and Rights are 0, if the accounts, the replica or the floor may not be.
func TestNoNumberAndNoRights(t *testing.T) {
	for i, l := range wrongAccounts() {
		for _, k := range append(someKeys(l), "") {
			if got := Number(l, k); got != 0 {
				t.Errorf("wrong accounts %d, %q: got %d", i, k, got)
			}
			for _, rep := range []int{1, 2, 5} {
				if got := Rights(l, k, rep, -5); got != 0 {
					t.Errorf("wrong accounts %d, %q, replica %d: got %d", i, k, rep, got)
				}
			}
		}
	}
	for i, l := range [][]api.Account{nil, {}, list(account("k", 1, 2, 3, 4, 5)), many(4000)} {
		for _, k := range []string{"k", "0001", "new", ""} {
			for _, rep := range wrongReps() {
				if got := Rights(l, k, rep, -5); got != 0 {
					t.Errorf("accounts %d, %q, replica %d: got %d", i, k, rep, got)
				}
			}
			for _, floor := range wrongFloors() {
				for _, rep := range rightReps() {
					if got := Rights(l, k, rep, floor); got != 0 {
						t.Errorf("accounts %d, %q, replica %d, floor %d: got %d", i, k, rep, floor, got)
					}
				}
			}
		}
	}
}

// Es2: a floor counts for the first replica alone.
func TestFloors(t *testing.T) {
	l := list(account("k", 1, 2, 3, 4, 5))
	for _, floor := range rightFloors() {
		for _, rep := range rightReps() {
			want := rep
			if rep == 1 {
				want -= floor
			}
			if got := Rights(l, "k", rep, floor); got != want {
				t.Errorf("replica %d, floor %d: got %d, want %d", rep, floor, got, want)
			}
		}
		if got := Rights(nil, "k", 1, floor); got != -floor {
			t.Errorf("of none, floor %d: got %d", floor, got)
		}
	}
}

// Es2: May answers ErrArg, if the accounts, the key, the replica, the floor or the amount may not be, whether there are rights or not.
func TestMayWrongArguments(t *testing.T) {
	want := func(what string, e api.Errno) {
		t.Helper()
		if e != api.ErrArg {
			t.Errorf("%s: got %d", what, e)
		}
	}
	for i, l := range wrongAccounts() {
		for _, k := range []string{"a", "k", "z"} {
			for _, n := range []int{1, 1000} {
				want(fmt.Sprintf("wrong accounts %d, %q %d", i, k, n), May(l, k, 1+i%5, -1000, n))
			}
		}
	}
	for i, l := range [][]api.Account{nil, {}, list(account("k", 5000, 5000, 5000, 5000, 5000)), list(account("k", -5000, -5000, -5000, -5000, -5000)), many(4000)} {
		for _, rep := range rightReps() {
			for _, k := range wrongKeys() {
				want(fmt.Sprintf("accounts %d, key %q", i, k), May(l, k, rep, -1000, 1))
			}
			for _, floor := range wrongFloors() {
				want(fmt.Sprintf("accounts %d, floor %d", i, floor), May(l, "k", rep, floor, 1))
			}
			for _, n := range wrongMoves() {
				want(fmt.Sprintf("accounts %d, %d", i, n), May(l, "k", rep, -1000, n))
			}
		}
		for _, rep := range wrongReps() {
			want(fmt.Sprintf("accounts %d, replica %d", i, rep), May(l, "k", rep, -1000, 1))
		}
	}
}

// Es2: May answers ErrRights, if the rights are fewer than n, else OK: of as many as they are, too.
func TestMay(t *testing.T) {
	for _, k := range rightKeys() {
		for _, rep := range rightReps() {
			for _, floor := range rightFloors() {
				for _, n := range []int{1, 2, 5, 6, 999, 1000} {
					for _, more := range []int{-most, -2000, -1000, -6, -5, -1, 0, 1, 5, 6, 1000, most} {
						rights := more
						if rep == 1 {
							rights -= floor
						}
						want := api.OK
						if rights < n {
							want = api.ErrRights
						}
						// The others' count for nothing.
						x := account(k, 7000, 7000, 7000, 7000, 7000)
						x.Have[rep-1] = more
						if got := May(list(x), k, rep, floor, n); got != want {
							t.Errorf("replica %d has %d, floor %d, %d: got %d, want %d", rep, more, floor, n, got, want)
						}
					}
				}
			}
		}
	}
}

// Es2: of a key that is not there the first replica may as much as the floor is below 0, the others nothing.
func TestMayOfNone(t *testing.T) {
	for _, l := range [][]api.Account{nil, {}, list(account("j", 9, 9, 9, 9, 9), account("l", 9, 9, 9, 9, 9)), many(4000)} {
		for _, rep := range rightReps() {
			for _, floor := range rightFloors() {
				for _, n := range []int{1, 4, 5, 6, 998, 999, 1000} {
					want := api.ErrRights
					if rep == 1 && n <= -floor {
						want = api.OK
					}
					if got := May(l, "k", rep, floor, n); got != want {
						t.Errorf("replica %d, floor %d, %d: got %d, want %d", rep, floor, n, got, want)
					}
				}
			}
		}
	}
}

// Same tells whether accounts are alike, whether they may be or not; no list is as an empty one.
func TestSame(t *testing.T) {
	lists := slices.Concat(rightAccounts(), wrongAccounts())
	var texts []string
	for _, l := range lists {
		texts = append(texts, text(l))
	}
	for i, a := range lists {
		for j, b := range lists {
			if got, want := Same(a, b), texts[i] == texts[j]; got != want {
				t.Errorf("%d and %d: got %v, want %v", i, j, got, want)
			}
		}
		if c := append([]api.Account(nil), a...); !Same(a, c) || !Same(c, a) {
			t.Errorf("%d is unlike its copy", i)
		}
	}
	if !Same(nil, nil) || !Same(nil, []api.Account{}) || !Same([]api.Account{}, nil) || !Same([]api.Account{}, []api.Account{}) {
		t.Error("nothing is unlike nothing")
	}
}

// Accounts that part in a key, in a Have, or in how many there are, are unlike.
func TestSameUnlike(t *testing.T) {
	base := list(account("a", 1, 2, 3, 4, 5), account("b", -2, 0, 7), account("c", 3))
	for i, other := range [][]api.Account{
		nil, base[:1], base[:2], base[1:], append(slices.Clone(base), account("d", 4)), append(list(account("0", 1)), base...), append(slices.Clone(base), api.Account{}),
		list(base[1], base[0], base[2]),
	} {
		if Same(base, other) || Same(other, base) {
			t.Errorf("other %d is alike", i)
		}
	}
	unlike := func(at int, change func(*api.Account)) {
		t.Helper()
		other := slices.Clone(base)
		change(&other[at])
		if Same(base, other) || Same(other, base) {
			t.Errorf("alike with %s at %d", text(other), at)
		}
	}
	for i := range base {
		for _, k := range []string{"x", strings.ToUpper(base[i].Key), base[i].Key + "\x00", ""} {
			unlike(i, func(x *api.Account) { x.Key = k })
		}
		for rep := range base[i].Have {
			for _, n := range []int{1, -1, 1 << 32, most} {
				unlike(i, func(x *api.Account) { x.Have[rep] += n })
			}
			// The number stays, what replicas have does not.
			unlike(i, func(x *api.Account) { x.Have[rep]--; x.Have[(rep+1)%5]++ })
		}
	}
}

// roomy is accounts in other memory with room behind them, so that a key that is put behind them would be seen.
func roomy(l []api.Account) []api.Account { return append(make([]api.Account, 0, len(l)+4), l...) }

// roomIsClear tells whether nothing was written behind accounts.
func roomIsClear(l []api.Account) bool {
	return !slices.ContainsFunc(l[len(l):cap(l)], func(x api.Account) bool { return x != api.Account{} })
}

// spoil changes all that accounts have, and what stands behind them.
func spoil(l []api.Account) {
	for i := range l[:cap(l)] {
		l[:cap(l)][i] = account("spoilt", 4, 4, 4, 4, 4)
	}
}

// R3: no call writes to what it is handed; what it answers shares nothing with it.
func TestNothingShared(t *testing.T) {
	calls := map[string]func([]api.Account) ([]api.Account, api.Errno){}
	for _, k := range []string{"0", "a", "b", "k", "l", "z", "zz"} {
		for _, n := range []int{0, 5, -5, 1} {
			calls[fmt.Sprintf("Up %s %d", k, n)] = func(l []api.Account) ([]api.Account, api.Errno) { return Up(l, k, 2, n) }
		}
		for _, to := range []int{1, 2, 3} {
			calls[fmt.Sprintf("Move %s to %d", k, to)] = func(l []api.Account) ([]api.Account, api.Errno) { return Move(l, k, 2, to, 5) }
		}
	}
	base := list(account("a", 0, 5), account("k", 0, -5), account("z", -5, 5))
	for _, name := range slices.Sorted(maps.Keys(calls)) {
		for n := range len(base) + 1 {
			l := roomy(base[:n])
			got, e := calls[name](l)
			if e != api.OK || text(l) != text(base[:n]) || !roomIsClear(l) {
				t.Fatalf("%s: %d, wrote to what it was handed: %s", name, e, text(l))
			}
			want := text(got)
			spoil(l)
			if text(got) != want {
				t.Errorf("%s: what it told has changed: %s, was %s", name, text(got), want)
			}
			l = roomy(base[:n])
			got, _ = calls[name](l)
			spoil(got)
			if text(l) != text(base[:n]) || !roomIsClear(l) {
				t.Errorf("%s: what it was handed has changed by what it told: %s", name, text(l))
			}
		}
	}
}

// R3: accounts that are read, or refused, stay as they are.
func TestReadingsAndRefusals(t *testing.T) {
	for i, base := range slices.Concat(rightAccounts(), wrongAccounts()) {
		l := roomy(base)
		Check(l)
		Number(l, "k")
		Rights(l, "k", 1, -5)
		May(l, "k", 1, -5, 3)
		Same(l, base)
		Same(base, l)
		Up(l, "", 1, 1)
		Move(l, "k", 1, 2, 1001)
		for _, rep := range rightReps() {
			Up(l, "k", rep, 1000)
			Up(l, "k", rep, -1000)
			Move(l, "k", rep, 1+rep%5, 1000)
		}
		if text(l) != text(base) || !roomIsClear(l) {
			t.Errorf("accounts %d have changed", i)
		}
	}
}

// The chapter's example.
func TestExample(t *testing.T) {
	for n := 1; n <= 6; n++ {
		first := api.OK
		if n > 5 {
			first = api.ErrRights
		}
		if a, b := May(nil, "a", 1, -5, n), May(nil, "a", 2, -5, n); a != first || b != api.ErrRights {
			t.Errorf("%d: got %d and %d", n, a, b)
		}
	}
	l, e := Move(nil, "a", 1, 2, 3)
	hold(t, "3 moved", l, e, list(account("a", -3, 3)))
	if May(l, "a", 2, -5, 3) != api.OK || May(l, "a", 2, -5, 4) != api.ErrRights || May(l, "a", 1, -5, 2) != api.OK || May(l, "a", 1, -5, 3) != api.ErrRights {
		t.Error("rights behind the move")
	}
	if Number(l, "a") != 0 {
		t.Errorf("the number behind the move: %d", Number(l, "a"))
	}
}
