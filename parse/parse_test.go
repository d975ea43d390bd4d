package parse

import (
	"fmt"
	"reflect"
	"slices"
	"strings"
	"testing"

	"huckster/api"
)

// keptWords are the words that are no name.
func keptWords() []string {
	return strings.Fields("set count note rule op strict ref both limit most least needs add drop up down put")
}

// names are some words that are not kept, near kept ones and far.
func names() []string {
	return []string{"a", "z", "b", "cart", "a1", "z99", "sett", "se", "putt", "ops", "o", "rules", "need", "stric", "k123456789012345", "setset", "up1", "end", "word", "read"}
}

// decl is a line of a kind with a name, in line 1.
func decl(kind int, name string) api.Decl { return api.Decl{Kind: kind, Name: name, Line: 1} }

// pair is a clause of two names.
func pair(kind int, name, other string) api.Decl {
	return api.Decl{Kind: kind, Name: name, Other: other, Line: 1}
}

// bound is a clause of a name and a number.
func bound(kind int, name string, n int) api.Decl {
	return api.Decl{Kind: kind, Name: name, N: n, Line: 1}
}

// oper is an operation of some deeds.
func oper(name string, l ...api.Deed) api.Decl {
	return api.Decl{Kind: api.DeclOp, Name: name, Does: l, Line: 1}
}

// strict is a clause that is strict.
func strict(x api.Decl) api.Decl {
	x.Strict = true
	return x
}

// at is a line that stands in another one.
func at(line int, x api.Decl) api.Decl {
	x.Line = line
	return x
}

// list is lines in short.
func list(l ...api.Decl) []api.Decl { return l }

// alike tells whether two lists of lines are alike; no list and an empty one are.
func alike(a, b []api.Decl) bool {
	return slices.EqualFunc(a, b, func(x, y api.Decl) bool {
		if !slices.Equal(x.Does, y.Does) {
			return false
		}
		x.Does, y.Does = nil, nil
		return reflect.DeepEqual(x, y)
	})
}

// short is the ends of a text.
func short(s string) string {
	if len(s) <= 150 {
		return fmt.Sprintf("%q", s)
	}
	return fmt.Sprintf("%q and so on, up to %q, of %d bytes", s[:60], s[len(s)-60:], len(s))
}

// hold tells whether a text's lines are those that are asked for.
func hold(t *testing.T, s string, want []api.Decl) {
	t.Helper()
	l, line, e := Lines(s)
	if e != api.OK || line != 0 || !alike(l, want) {
		t.Errorf("%s: got %v, %d, %d, want %v", short(s), l, line, e, want)
	}
}

// refuse tells whether a text has an error at a line, and no lines beside it.
func refuse(t *testing.T, s string, line int, want api.Errno) {
	t.Helper()
	l, got, e := Lines(s)
	if e != want || got != line || len(l) != 0 {
		t.Errorf("%s: got %v, %d, %d, want none, %d, %d", short(s), l, got, e, line, want)
	}
}

// isNone tells whether a line is none, wherever it stands: with a line feed behind it or the text's end, as the first one and as a later one.
func isNone(t *testing.T, s string) {
	t.Helper()
	refuse(t, s, 1, api.ErrText)
	refuse(t, s+"\n", 1, api.ErrText)
	refuse(t, s+" # of it", 1, api.ErrText)
	refuse(t, s+"\nset y", 1, api.ErrText)
	refuse(t, s+"\nset set", 1, api.ErrText)
	refuse(t, "\n"+s, 2, api.ErrText)
	refuse(t, "set y\n# set\n"+s, 3, api.ErrText)
	refuse(t, "op y: put x\n\n \n"+s+"\n\nset y\n", 4, api.ErrText)
}

// Pa1: the chapter's example.
func TestExample(t *testing.T) {
	hold(t, "rule strict ref a b", list(strict(pair(api.DeclRef, "a", "b"))))
}

// right is a line that may be, and what it says in line 1.
type right struct {
	text string
	want api.Decl
}

// ones are lines of each kind, with these names and this number.
func ones(a, b string, n int) []right {
	clause := map[string]api.Decl{
		"ref " + a + " " + b:               pair(api.DeclRef, a, b),
		"both " + a + " " + b:              pair(api.DeclBoth, a, b),
		"needs " + a + " " + b:             pair(api.DeclNeeds, a, b),
		fmt.Sprintf("limit %s %d", a, n):   bound(api.DeclLimit, a, n),
		fmt.Sprintf("most %s %d", a, n):    bound(api.DeclMost, a, n),
		fmt.Sprintf("least\t%s\t%d", a, n): bound(api.DeclLeast, a, n),
	}
	l := []right{
		{"set " + a, decl(api.DeclSet, a)},
		{"count " + a, decl(api.DeclCount, a)},
		{"note " + a, decl(api.DeclNote, a)},
		{"op " + a + ": add " + b, oper(a, api.Deed{Kind: api.EffAdd, Name: b})},
		{"op " + a + ":drop " + b, oper(a, api.Deed{Kind: api.EffDrop, Name: b})},
		{"op " + a + " : put " + b, oper(a, api.Deed{Kind: api.EffSet, Name: b})},
		{fmt.Sprintf("op %s :up %s %d", a, b, n), oper(a, api.Deed{Kind: api.EffUp, Name: b, N: n})},
		{fmt.Sprintf("op %s: down %s %d", a, b, n), oper(a, api.Deed{Kind: api.EffDown, Name: b, N: n})},
	}
	for s, want := range clause {
		l = append(l, right{"rule " + s, want}, right{"rule strict " + s, strict(want)})
	}
	return l
}

// Pa1: a line of each kind, with each of some names and numbers; what is not named is nought.
func TestKinds(t *testing.T) {
	for _, a := range names() {
		for _, b := range []string{"x", a} {
			for _, n := range []int{0, 1, -1, 1000, 9999, -9999} {
				for _, c := range ones(a, b, n) {
					hold(t, c.text, list(c.want))
				}
			}
		}
	}
}

// Pa1: blanks and remarks about a line change nothing of it but its Line.
func TestWhereLinesStand(t *testing.T) {
	for _, c := range ones("a", "b", -20) {
		hold(t, " \t"+c.text, list(c.want))
		hold(t, c.text+"\t ", list(c.want))
		hold(t, c.text+"#"+c.text, list(c.want))
		hold(t, c.text+"\n", list(c.want))
		hold(t, "\n"+c.text, list(at(2, c.want)))
		hold(t, "# of it\n\n \t\n"+c.text+"\n\n", list(at(4, c.want)))
		hold(t, c.text+"\n"+c.text, list(c.want, at(2, c.want)))
		hold(t, "\n"+c.text+"\n#\n"+c.text+" # set\n\n"+c.text+"\n", list(at(2, c.want), at(4, c.want), at(6, c.want)))
	}
}

// Pa1: a text without tokens but line feeds has no lines.
func TestNoLines(t *testing.T) {
	for _, s := range []string{"", " ", "\t", "\n", "\n\n\n", " \n\t\n ", "#", "# set a", "#\n#\n", "# set\n\n \t# a: ,\n\t", strings.Repeat("\n", 799), strings.Repeat("#B\n", 700), strings.Repeat(" ", 4096)} {
		hold(t, s, nil)
	}
}

// Pa1: lines of a whole rule set, each with the line in which it stands.
func TestRuleSet(t *testing.T) {
	hold(t, `# a shop

set cart
set ware   # what there is
count left

rule strict ref cart ware
rule limit cart 20
rule least left -5
	# what may be done
note label
op take: add cart, down left 1
op back:drop cart,up left 1 , put label
`, list(
		at(3, decl(api.DeclSet, "cart")),
		at(4, decl(api.DeclSet, "ware")),
		at(5, decl(api.DeclCount, "left")),
		at(7, strict(pair(api.DeclRef, "cart", "ware"))),
		at(8, bound(api.DeclLimit, "cart", 20)),
		at(9, bound(api.DeclLeast, "left", -5)),
		at(11, decl(api.DeclNote, "label")),
		at(12, oper("take", api.Deed{Kind: api.EffAdd, Name: "cart"}, api.Deed{Kind: api.EffDown, Name: "left", N: 1})),
		at(13, oper("back", api.Deed{Kind: api.EffDrop, Name: "cart"}, api.Deed{Kind: api.EffUp, Name: "left", N: 1}, api.Deed{Kind: api.EffSet, Name: "label"})),
	))
}

// Pa1: a line says what it says, whether there are such things or not, and whether it says so twice.
func TestLinesAreNotHeldAgainstOthers(t *testing.T) {
	hold(t, "rule ref a a\nset a\nset a\ncount a\nrule strict limit a -9999\nop a: add a, add a, drop a", list(
		pair(api.DeclRef, "a", "a"),
		at(2, decl(api.DeclSet, "a")),
		at(3, decl(api.DeclSet, "a")),
		at(4, decl(api.DeclCount, "a")),
		at(5, strict(bound(api.DeclLimit, "a", -9999))),
		at(6, oper("a", api.Deed{Kind: api.EffAdd, Name: "a"}, api.Deed{Kind: api.EffAdd, Name: "a"}, api.Deed{Kind: api.EffDrop, Name: "a"})),
	))
}

// someDeeds is so many deeds, of all five kinds in turn from one on, as texts and as they are told.
func someDeeds(n, first int) ([]string, []api.Deed) {
	var l []string
	var want []api.Deed
	for i := range n {
		name := fmt.Sprintf("t%d", i)
		switch (i + first) % 5 {
		case 0:
			l, want = append(l, "add "+name), append(want, api.Deed{Kind: api.EffAdd, Name: name})
		case 1:
			l, want = append(l, "drop "+name), append(want, api.Deed{Kind: api.EffDrop, Name: name})
		case 2:
			l, want = append(l, fmt.Sprintf("up %s %d", name, i)), append(want, api.Deed{Kind: api.EffUp, Name: name, N: i})
		case 3:
			l, want = append(l, fmt.Sprintf("down %s %d", name, -i)), append(want, api.Deed{Kind: api.EffDown, Name: name, N: -i})
		case 4:
			l, want = append(l, "put "+name), append(want, api.Deed{Kind: api.EffSet, Name: name})
		}
	}
	return l, want
}

// Pa1: operations of 1 to 16 deeds are told, in their order; one of more is none.
func TestDeeds(t *testing.T) {
	for n := 1; n <= 16; n++ {
		for first := range 5 {
			for _, comma := range []string{",", ", ", " ,", "\t, "} {
				l, want := someDeeds(n, first)
				hold(t, "op x: "+strings.Join(l, comma), list(oper("x", want...)))
				hold(t, "set x\nop x: "+strings.Join(l, comma)+"\nset x\n", list(decl(api.DeclSet, "x"), at(2, oper("x", want...)), at(3, decl(api.DeclSet, "x"))))
			}
		}
	}
	for n := 17; n <= 40; n++ {
		for first := range 5 {
			l, _ := someDeeds(n, first)
			isNone(t, "op x: "+strings.Join(l, ", "))
		}
	}
}

// Pa1: behind the 16th deed nothing may come, what it is or not.
func TestBehindTheLastDeed(t *testing.T) {
	l, _ := someDeeds(16, 0)
	for _, s := range []string{",", ", ,", ", add", ", add a", ",a", ",1", " a", " 1", ":", " put a", " add"} {
		isNone(t, "op x: "+strings.Join(l, ",")+s)
	}
	// The line of the comma is told, not one behind it.
	refuse(t, "set a\nop x: "+strings.Join(l, ",")+",\nadd a", 2, api.ErrText)
}

// Pa1: no kept word is a name, in any place where a name must stand.
func TestKeptWordsAreNoNames(t *testing.T) {
	for _, k := range keptWords() {
		for _, s := range []string{
			"set %s", "count %s", "note %s", "op %s: add a", "op x: add %s", "op x: drop %s", "op x: put %s", "op x: up %s 1", "op x: down %s 1",
			"op x: add a, add %s", "op x: add a, up %s 1, drop b", "rule limit %s 1", "rule most %s 1", "rule least %s 1", "rule strict least %s 1",
			"rule ref %s b", "rule ref a %s", "rule both %s b", "rule both a %s", "rule needs %s b", "rule needs a %s", "rule strict ref %s b", "rule strict both a %s",
		} {
			isNone(t, fmt.Sprintf(s, k))
			s = strings.Replace(s, "%s", k+"s", 1)
			if l, _, e := Lines(s); e != api.OK || len(l) != 1 {
				t.Errorf("%q: got %d", s, e)
			}
		}
	}
}

// Pa1: where a kept word must stand, no other word may, nor a kept one that has another place.
func TestOtherWordsThanKeptOnes(t *testing.T) {
	others := slices.Concat(keptWords(), names(), []string{"1", "0", "-1", ":", ",", "Set", "move", "ask"})
	for _, k := range keptWords() {
		others = append(others, k+"s", k+"1", k+k, k[1:], k[:len(k)-1], "s"+k, k[:len(k)-1]+"z")
	}
	places := []struct {
		text string
		may  []string
	}{
		{"%s a", []string{"set", "count", "note"}},
		{"%s a: add b", []string{"op"}},
		{"%s limit a 1", []string{"rule"}},
		{"%s ref a b", []string{"rule"}},
		{"rule %s a b", []string{"ref", "both", "needs"}},
		{"rule %s a 1", []string{"limit", "most", "least"}},
		{"rule %s ref a b", []string{"strict"}},
		{"rule %s least a 1", []string{"strict"}},
		{"rule strict %s a b", []string{"ref", "both", "needs"}},
		{"rule strict %s a 1", []string{"limit", "most", "least"}},
		{"op x: %s a", []string{"add", "drop", "put"}},
		{"op x: %s a 1", []string{"up", "down"}},
		{"op x: add a, %s a", []string{"add", "drop", "put"}},
		{"op x: add a, %s a 1", []string{"up", "down"}},
		{"op x: up a 1, %s a 1, put b", []string{"up", "down"}},
	}
	for _, c := range places {
		for _, w := range others {
			s := strings.Replace(c.text, "%s", w, 1)
			if !slices.Contains(c.may, w) {
				isNone(t, s)
			} else if l, _, e := Lines(s); e != api.OK || len(l) != 1 {
				t.Errorf("%q: got %d", s, e)
			}
		}
	}
}

// Pa1: numbers are no names, names no numbers.
func TestNumbersAndNames(t *testing.T) {
	for _, n := range []string{"0", "1", "-1", "9999", "-9999"} {
		for _, s := range []string{
			"%s", "%s a", "set %s", "count %s", "note %s", "op %s: add a", "op x: add %s", "op x: put %s", "op x: drop %s", "op x: up %s 1", "op x: down %s 1",
			"rule %s", "rule %s a b", "rule strict %s a b", "rule ref %s a", "rule ref a %s", "rule both %s a", "rule both a %s", "rule needs a %s", "rule limit %s 1", "rule most %s 1", "rule least %s 1", "rule least %s a",
			"op x %s: add a", "op x: %s", "op x: %s a", "op x: add a %s", "op x: drop a %s, add b", "op x: put a %s", "op x: add a, %s", "set a %s", "rule ref a b %s", "rule limit a 1 %s", "op x: up a 1 %s",
		} {
			isNone(t, fmt.Sprintf(s, n))
		}
	}
	for _, w := range slices.Concat(names(), keptWords(), []string{":", ","}) {
		for _, s := range []string{"rule limit a %s", "rule most a %s", "rule least a %s", "rule strict least a %s", "op x: up a %s", "op x: down a %s", "op x: up a %s, add b", "op x: add b, down a %s"} {
			isNone(t, fmt.Sprintf(s, w))
		}
	}
}

// Pa1: each kind of line, ended too soon at each of its places, by the line's end or the text's, is none: the line that ends is told, not the next one.
func TestTooSoon(t *testing.T) {
	for _, s := range []string{
		"set a", "count a", "note a", "rule ref a b", "rule both a b", "rule needs a b", "rule limit a 1", "rule most a 0", "rule least a -1",
		"rule strict ref a b", "rule strict both a b", "rule strict needs a b", "rule strict limit a 1", "rule strict most a 0", "rule strict least a -1",
		"op x : add a", "op x : drop a", "op x : put a", "op x : up a 1", "op x : down a -1",
	} {
		all := strings.Fields(s)
		for n := 1; n < len(all); n++ {
			some := strings.Join(all[:n], " ")
			isNone(t, some)
			// What is lacking stands in the next line, or behind a remark.
			refuse(t, some+"\n"+strings.Join(all[n:], " "), 1, api.ErrText)
			refuse(t, "\n"+some+" # "+strings.Join(all[n:], " "), 2, api.ErrText)
			refuse(t, "set y\n\n"+some+"\n"+strings.Join(all[n:], " ")+"\n", 3, api.ErrText)
		}
	}
	for _, s := range []string{"op x: add a,", "op x: add a, drop", "op x: add a, put b,", "op x: add a, up", "op x: add a, up b", "op x: add a, up b 1,", "op x: add a, add b, down b"} {
		isNone(t, s)
		refuse(t, s+"\nadd c", 1, api.ErrText)
		refuse(t, "set y\n"+s+"\n1", 2, api.ErrText)
	}
	// An operation does not go on in another line.
	refuse(t, "op x: add a\n, add b", 2, api.ErrText)
	refuse(t, "op x:\nadd a", 1, api.ErrText)
	refuse(t, "op x\n: add a", 1, api.ErrText)
}

// Pa1: one token more is one too many, at the end of each kind of line.
func TestTooMany(t *testing.T) {
	for _, c := range ones("a", "b", 7) {
		for _, x := range slices.Concat(keptWords(), []string{"a", "b", "c", "0", "1", "-1", ":", ": add a", "1 1", "a b"}) {
			isNone(t, c.text+" "+x)
		}
		if c.want.Kind != api.DeclOp {
			for _, x := range []string{",", ", a", ", add a", ",,"} {
				isNone(t, c.text+x)
			}
		}
	}
}

// Pa1: colons and commas stand where they must, one at a time, and nowhere else.
func TestMarks(t *testing.T) {
	for _, s := range []string{
		":", ",", "::", ",,", ": set a", ", set a", ":set a", "set: a", "set, a", "set a:", "set a,", "set a, b", "count a: b", "note :", "note ,",
		"op: x: add a", "op, x: add a", "op :", "op x", "op x:", "op x,", "op x add a", "op x, add a", "op x:: add a", "op x: : add a", "op x:, add a", "op x: ,", "op x: add: a", "op x: add, a", "op x: add a:", "op x: add a: add b",
		"op x: add a,, add b", "op x: add a, , add b", "op x: add a,", "op x: add a,,", "op x:,add a,", "op x: add a add b", "op x: add a; add b", "op x: up a, 1", "op x: up: a 1", "op x: up a: 1", "op x: up a 1:", "op x: up a 1 add b", "op x: up a 1,,down a 1", "op x y: add a",
		"rule: ref a b", "rule, ref a b", "rule ref: a b", "rule ref a, b", "rule ref a: b", "rule ref a b,", "rule ref a b:", "rule limit a: 1", "rule limit a, 1", "rule limit a 1,", "rule strict: ref a b", "rule strict, ref a b",
	} {
		isNone(t, s)
	}
}

// Pa1: `strict` stands once, right behind `rule`, and in no other line.
func TestStrict(t *testing.T) {
	for _, s := range []string{
		"rule strict", "rule strict strict ref a b", "rule ref strict a b", "rule ref a strict b", "rule ref a b strict", "strict rule ref a b", "strict", "strict ref a b", "rule limit strict a 1", "rule limit a strict 1", "rule limit a 1 strict",
		"set strict a", "strict set a", "op strict x: add a", "op x: strict add a", "op strict: add a", "rule stric ref a b", "rule stricts ref a b", "rule strictref a b", "rule strict1 ref a b",
	} {
		isNone(t, s)
	}
}

// Pa1: words without a place, or whose place is another, begin no line.
func TestFirstTokens(t *testing.T) {
	for _, s := range slices.Concat(names(), keptWords(), []string{"0", "-1", "9999", "rule op", "op rule", "set set a", "set count a", "ref a b", "limit a 1", "add a", "put a", "up a 1", "x: add a", "sets a", "set1 a", "op1 x: add a", "rules ref a b", "rule refs a b", "rule a", "rule set a", "rule a b c"}) {
		isNone(t, s)
	}
}

// Pa1: of several lines that can't be the first one is told.
func TestFirstWrongLine(t *testing.T) {
	for _, s := range []string{"set", "op x:", "rule ref a", ",", "a", "1", "set a b", "op x: add a,"} {
		for n := range 30 {
			ahead := strings.Repeat("set a\n", n)
			refuse(t, ahead+s, n+1, api.ErrText)
			refuse(t, ahead+s+"\n"+s, n+1, api.ErrText)
			refuse(t, ahead+s+"\n\n\nset\nset set", n+1, api.ErrText)
			refuse(t, strings.Repeat("#\n", n)+ahead+s+"\nset a", 2*n+1, api.ErrText)
		}
	}
}

// Pa1: layer 14's errors come ahead of all others, with their line, whether they stand behind a line that can't be, ahead of one, or in it.
func TestTokensComeFirst(t *testing.T) {
	for _, x := range []string{"B", "\x00", "\xff", "é", "-", "-0", "01", "10000", "a-", "1a", strings.Repeat("a", 17), "\r", "set a;", "set A", "rule limit a 10000"} {
		for _, s := range []string{"", "set a", "set", "set set", "op x:", ",", "rule ref a"} {
			refuse(t, s+"\n"+x, 2, api.ErrText)
			refuse(t, x+"\n"+s, 1, api.ErrText)
			refuse(t, s+" "+x, 1, api.ErrText)
			refuse(t, s+"\nset\n\n"+x+"\nset", 4, api.ErrText)
			refuse(t, strings.Repeat("set a\n", 70)+s+"\n"+x, 72, api.ErrText)
		}
	}
	for _, s := range []string{"set a", "set", "set set", "op x:", ","} {
		refuse(t, s+strings.Repeat(" ", 4096-len(s))+"\n", 0, api.ErrBig)
		refuse(t, strings.Repeat(s+"\n", 4096), 0, api.ErrBig)
		refuse(t, s+"\n"+strings.Repeat(":", 800), 2, api.ErrBig)
		refuse(t, s+strings.Repeat(":", 800), 1, api.ErrBig)
		refuse(t, strings.Repeat("\n", 799)+s, 800, api.ErrBig)
	}
}

// Pa1: 60 lines are told, whatever lines without tokens there are; the 61st one that has tokens is one too many, and no other one.
func TestLineBounds(t *testing.T) {
	for _, c := range ones("a", "b", -3) {
		for _, between := range []string{"\n", "\n\n", " # a\n", "\n\t\n#\n"} {
			step := strings.Count(between, "\n")
			var want []api.Decl
			for i := range 60 {
				want = append(want, at(1+i*step, c.want))
			}
			for _, n := range []int{1, 2, 59, 60} {
				s := strings.Repeat(c.text+between, n)
				hold(t, s, want[:n])
				hold(t, strings.TrimSuffix(s, between), want[:n])
				hold(t, s+"#\n\n \n# set", want[:n])
			}
			full := strings.Repeat(c.text+between, 60)
			for _, n := range []int{1, 2, 10} {
				refuse(t, full+strings.Repeat(c.text+between, n), 60*step+1, api.ErrBig)
				refuse(t, full+"\n#\n"+strings.Repeat(c.text+between, n), 60*step+3, api.ErrBig)
				refuse(t, "\n\n"+full+strings.Repeat(c.text+between, n), 60*step+3, api.ErrBig)
			}
		}
	}
}

// Pa1: lines without tokens are not counted.
func TestLinesWithoutTokensAreNotCounted(t *testing.T) {
	for n := range 100 {
		hold(t, strings.Repeat("\n", n)+"set a", list(at(n+1, decl(api.DeclSet, "a"))))
		hold(t, "set a\n"+strings.Repeat(" #b\n", n)+"set b", list(decl(api.DeclSet, "a"), at(n+2, decl(api.DeclSet, "b"))))
	}
	refuse(t, strings.Repeat("\n", 100)+"set", 101, api.ErrText)
	refuse(t, strings.Repeat("\n", 100)+strings.Repeat("set a\n", 61), 161, api.ErrBig)
}

// Pa1: where a line that can't be and one that is too many are both there, the first is told, as ErrText is named first.
func TestNoneComesAheadOfTooMany(t *testing.T) {
	for _, x := range []string{"set", "op x:", "rule ref a", ",", "set a b", "sets a"} {
		for n := range 75 {
			ahead := strings.Repeat("set a\n", n)
			refuse(t, ahead+x, n+1, api.ErrText)
			refuse(t, ahead+x+"\n"+strings.Repeat("set a\n", 75), n+1, api.ErrText)
			refuse(t, ahead+"\n#\n"+x+"\n"+x, n+3, api.ErrText)
		}
	}
}

// Pa1: the seventeen words are kept, and no other text is.
func TestKept(t *testing.T) {
	if n := len(keptWords()); n != 17 {
		t.Fatalf("%d words", n)
	}
	for _, k := range keptWords() {
		if !Kept(k) {
			t.Errorf("%q is kept", k)
		}
		for _, x := range nearby(k) {
			if Kept(x) != slices.Contains(keptWords(), x) {
				t.Errorf("%q: got %v", x, Kept(x))
			}
		}
	}
	for _, s := range slices.Concat(names(), []string{"", " ", "\n", "#", ":", ",", "0", "1", "-1", "move", "ask", "take", "do", "i", "set a", "rule strict", "setcount", "\x00", "\xff", "s\u00e9t", "ｓｅｔ", strings.Repeat("set", 1000)}) {
		if Kept(s) {
			t.Errorf("%q is not kept", s)
		}
	}
}

// nearby are texts that are a word but for one byte, more, less or another one, or for how it is written.
func nearby(k string) []string {
	l := []string{strings.ToUpper(k), strings.ToUpper(k[:1]) + k[1:], k + k}
	for i := range len(k) + 1 {
		for b := range 256 {
			c := string([]byte{byte(b)})
			l = append(l, k[:i]+c+k[i:])
			if i < len(k) {
				l = append(l, k[:i]+c+k[i+1:])
			}
		}
		if i < len(k) {
			l = append(l, k[:i]+k[i+1:], k[:i], k[i:])
		}
	}
	return slices.DeleteFunc(l, func(s string) bool { return s == k })
}

// Pa1: all words of up to three letters: those of the seventeen are kept, and no name.
func TestAllShortWords(t *testing.T) {
	letters := strings.Split("abcdefghijklmnopqrstuvwxyz", "")
	words := letters
	for range 3 {
		for _, w := range words {
			if slices.Contains(keptWords(), w) != Kept(w) {
				t.Errorf("%q: got %v", w, Kept(w))
			}
			if _, _, e := Lines("set " + w); (e == api.OK) == Kept(w) {
				t.Errorf("set %s: got %d", w, e)
			}
		}
		var more []string
		for _, w := range words {
			for _, c := range letters {
				more = append(more, w+c)
			}
		}
		words = more
	}
}

// R3, R4 and R7a: an answer hangs on the text alone, and no two lists share memory, of one answer or of two.
func TestAnswersApart(t *testing.T) {
	s := "op x: add a, up b 2, put c\nop y: drop a, down b 3\nset a"
	want := list(
		oper("x", api.Deed{Kind: api.EffAdd, Name: "a"}, api.Deed{Kind: api.EffUp, Name: "b", N: 2}, api.Deed{Kind: api.EffSet, Name: "c"}),
		at(2, oper("y", api.Deed{Kind: api.EffDrop, Name: "a"}, api.Deed{Kind: api.EffDown, Name: "b", N: 3})),
		at(3, decl(api.DeclSet, "a")),
	)
	first, _, _ := Lines(s)
	second, _, _ := Lines(s)
	for i := range first {
		more := append(first[i].Does, api.Deed{Kind: 8, Name: "more", N: 8})
		for j := range more {
			more[j] = api.Deed{Kind: 9, Name: "other", N: 9}
		}
		for j := range first[i].Does {
			first[i].Does[j] = api.Deed{Kind: 9, Name: "other", N: 9}
		}
		for j, x := range first[i+1:] {
			if !alike(list(x), want[i+1+j:i+2+j]) {
				t.Errorf("line %d changed with line %d", i+1+j, i)
			}
		}
		first[i] = api.Decl{Kind: 77, Name: "x", Line: 700}
	}
	_ = append(first, decl(api.DeclSet, "more"))
	if !alike(second, want) {
		t.Errorf("got %v, want %v", second, want)
	}
	hold(t, s, want)
	refuse(t, "set a\n\nset", 3, api.ErrText)
	hold(t, s, want)
}

// What is caught is what is given up alone: a fault of another kind goes on, as tokens without an end would be.
func TestOtherPanicsGoOn(t *testing.T) {
	defer func() {
		if recover() == nil {
			t.Error("no panic")
		}
	}()
	tell([]api.Token{{Kind: api.TokWord, Text: "set", Line: 1}})
}
