package lex

import (
	"math/rand"
	"regexp"
	"slices"
	"strconv"
	"strings"
	"testing"

	"huckster/api"
)

var (
	aWord   = regexp.MustCompile(`^[a-z][a-z0-9]{0,15}$`)
	aNumber = regexp.MustCompile(`^(0|-?[1-9][0-9]{0,3})$`)
	aRemark = regexp.MustCompile(`#[^\n]*`)
	goesOn  = regexp.MustCompile(`^[a-z0-9-]`)
)

// longest is how many bytes of a text the longest word, or number, has that it begins with.
func longest(s string) int {
	for n := min(len(s), api.MaxName); n > 0; n-- {
		if aWord.MatchString(s[:n]) || aNumber.MatchString(s[:n]) {
			return n
		}
	}
	return 0
}

// asToken is the token of a text that is one, but for its line.
func asToken(s string) api.Token {
	switch s {
	case ":":
		return api.Token{Kind: api.TokColon}
	case ",":
		return api.Token{Kind: api.TokComma}
	case "\n":
		return api.Token{Kind: api.TokLine}
	case "":
		return api.Token{Kind: api.TokEnd}
	}
	if n, err := strconv.Atoi(s); err == nil {
		return api.Token{Kind: api.TokNum, N: n}
	}
	return api.Token{Kind: api.TokWord, Text: s}
}

// asPromised is Le1's answer, by its words: of what is left the blanks go, then the longest token is taken, behind which none may go on.
func asPromised(s string) ([]api.Token, int, api.Errno) {
	if len(s) > 4096 {
		return nil, 0, api.ErrBig
	}
	left := aRemark.ReplaceAllString(s, " ")
	var l []api.Token
	for line := 1; ; {
		left = strings.TrimLeft(left, " \t")
		n := longest(left)
		if n > 0 && goesOn.MatchString(left[n:]) {
			return nil, line, api.ErrText
		}
		if n == 0 && left != "" {
			if n = 1; !strings.Contains(":,\n", left[:1]) {
				return nil, line, api.ErrText
			}
		}
		x := asToken(left[:n])
		x.Line = line
		if l = append(l, x); len(l) > 800 {
			return nil, line, api.ErrBig
		}
		if x.Kind == api.TokEnd {
			return l, 0, api.OK
		}
		if x.Kind == api.TokLine {
			line++
		}
		left = left[n:]
	}
}

// holdPromised tells whether a text's answer is as Le1 says.
func holdPromised(t *testing.T, s string) {
	t.Helper()
	want, line, e := asPromised(s)
	if e == api.OK {
		hold(t, s, want)
	} else {
		refuse(t, s, line, e)
	}
	is := e == api.OK && len(want) == 2 && want[0].Kind == api.TokWord && want[0].Text == s
	if Word(s) != is {
		t.Errorf("%s: Word is %v", short(s), !is)
	}
}

// eachText goes through all texts of so many pieces, or fewer.
func eachText(pieces []string, most int, see func(string)) {
	var on func(string, int)
	on = func(s string, left int) {
		see(s)
		if left == 0 {
			return
		}
		for _, p := range pieces {
			on(s+p, left-1)
		}
	}
	on("", most)
}

// Le1: all texts of few bytes are read as its words say.
func TestAllFewBytes(t *testing.T) {
	for _, c := range []struct {
		pieces []string
		most   int
	}{
		{[]string{"a", "z9", "0", "1", "-", ":", ",", "#", " ", "\t", "\n", "B", "\xff"}, 4},
		{[]string{"a", "0", "1", "-"}, 7},
		{[]string{"a", "#", "-", "\n", "é"}, 6},
		{[]string{"9", "-", " ", "0"}, 7},
	} {
		eachText(c.pieces, c.most, func(s string) { holdPromised(t, s) })
	}
}

// Le1: words and numbers of as many bytes as there may be, and one more, are read so too, whatever they are made of.
func TestLongOnes(t *testing.T) {
	eachText([]string{"a", "0", "1"}, 4, func(first string) {
		eachText([]string{"z", "9", "-", "A", " "}, 2, func(last string) {
			for n := range 19 {
				holdPromised(t, first+strings.Repeat("k", n)+last)
				holdPromised(t, first+strings.Repeat("7", n)+last)
			}
		})
	})
}

// pieces are what random texts are made of; of those at the end a text can't be read.
func pieces() []string {
	return []string{"a", "op ", "put", "set cart", "z9", "k123 ", "0", "1", "-1", "-20 ", "9999", ":", ": ", ",", " ,", " ", " ", "\t", "\n", "\n", " \n", "#", "# x\n", "#\xff-0 é\n", "B", "-", "00", "\r", "é", "\xff", "\x00"}
}

// some is a random text of so many pieces, or fewer, of the first few kinds.
func some(r *rand.Rand, kinds, most int) string {
	var b strings.Builder
	for range r.Intn(most + 1) {
		b.WriteString(pieces()[r.Intn(kinds)])
	}
	return b.String()
}

// Le1: random texts are read so, with few tokens, many, and too many.
func TestRandomTexts(t *testing.T) {
	r := rand.New(rand.NewSource(14))
	all := len(pieces())
	for range 20000 {
		holdPromised(t, some(r, all, 12))
		holdPromised(t, some(r, all-6, 12))
	}
	for range 300 {
		holdPromised(t, strings.Repeat(": ", r.Intn(500))+some(r, 22, 900))
		holdPromised(t, strings.Repeat(",\n", r.Intn(402))+some(r, all, 12))
		holdPromised(t, strings.Repeat("a1 ", 770+r.Intn(35))+some(r, all, 40))
	}
}

// linesAhead are the tokens up to the TokLine of a number, counted from 1 on.
func linesAhead(l []api.Token, lines int) []api.Token {
	for i, x := range l {
		if x.Kind == api.TokLine && x.Line == lines {
			return l[:i+1]
		}
	}
	return nil
}

// behind are texts that stand behind a line feed; those at the end can't be read.
func behind() []string {
	return []string{"", "\n", " ", "\t\t", "a", "a\n", "9", "-9", "a:b,c", ":", ",", "#", "# a\n", "#\n#\n", "op put: add a", "\n\n\na 1", "z9 # \xff", strings.Repeat("a", 16), "B", "-", "-0", "é", "\xff", "\r", "\r\n", "\x00", "a-", "9a", strings.Repeat("9", 17), "a\nB", "a\n\n-"}
}

// holdAhead tells whether lines that end with a line feed have the same tokens, or the same error, whatever stands behind.
func holdAhead(t *testing.T, s, behind string) {
	t.Helper()
	lines := strings.Count(s, "\n")
	want, line, e := Read(s)
	got, at, f := Read(s + behind)
	if e != api.OK && line <= lines {
		if f != e || at != line || len(got) != 0 {
			t.Errorf("%s, then %s: got %d tokens, %d, %d, want %d, %d", short(s), short(behind), len(got), at, f, line, e)
		}
		return
	}
	if e != api.OK {
		return
	}
	if f != api.OK {
		if at <= lines || len(got) != 0 {
			t.Errorf("%s, then %s: got %d tokens, %d, %d", short(s), short(behind), len(got), at, f)
		}
		return
	}
	if lines > 0 && !slices.Equal(want, slices.Concat(linesAhead(got, lines), list(end(lines+1)))) {
		t.Errorf("%s, then %s: got %v, want %v", short(s), short(behind), linesAhead(got, lines), want)
	}
}

// Le2: what stands behind a line feed changes nothing of the lines ahead: of some that can be read, and of some that can't.
func TestWhatFollows(t *testing.T) {
	for _, first := range behind() {
		for _, second := range behind() {
			for _, third := range behind() {
				holdAhead(t, first+"\n", second+"\n"+third)
				holdAhead(t, first+"\n"+second+"\n", third)
			}
		}
	}
}

// Le2: two texts whose lines part behind a line feed have the same tokens up to there.
func TestLinesThatPart(t *testing.T) {
	s := "set a # all of them\n\n\trule limit a 3\nop put: add a,up c -1 #\n"
	want := list(
		word("set", 1), word("a", 1), feed(1), feed(2),
		word("rule", 3), word("limit", 3), word("a", 3), num(3, 3), feed(3),
		word("op", 4), word("put", 4), colon(4), word("add", 4), word("a", 4), comma(4), word("up", 4), word("c", 4), num(-1, 4), feed(4),
	)
	hold(t, s, slices.Concat(want, list(end(5))))
	hold(t, s+"a", slices.Concat(want, list(word("a", 5), end(5))))
	hold(t, s+"a1:", slices.Concat(want, list(word("a1", 5), colon(5), end(5))))
	hold(t, s+"-7#\n9", slices.Concat(want, list(num(-7, 5), feed(5), num(9, 6), end(6))))
	hold(t, s+"# a", slices.Concat(want, list(end(5))))
	refuse(t, s+"aB", 5, api.ErrText)
	refuse(t, s+"\n\n-\n", 7, api.ErrText)
	refuse(t, s+strings.Repeat(",", 800), 5, api.ErrBig)
}

// Le2: it holds of random lines, and near as many tokens as there may be.
func TestRandomLinesAhead(t *testing.T) {
	r := rand.New(rand.NewSource(41))
	all := len(pieces())
	for range 20000 {
		holdAhead(t, some(r, all-6, 8)+"\n", some(r, all, 8))
		holdAhead(t, some(r, all, 8)+"\n", some(r, all, 8))
	}
	for range 300 {
		holdAhead(t, strings.Repeat("a ", 780+r.Intn(20))+some(r, all-6, 8)+"\n", some(r, all, 30))
	}
}
