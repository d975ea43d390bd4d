package lex

import (
	"fmt"
	"slices"
	"strings"
	"testing"
	"unicode/utf8"

	"huckster/api"
)

// word, num and mark are tokens in short.
func word(text string, line int) api.Token {
	return api.Token{Kind: api.TokWord, Text: text, Line: line}
}

func num(n, line int) api.Token { return api.Token{Kind: api.TokNum, N: n, Line: line} }

func mark(kind, line int) api.Token { return api.Token{Kind: kind, Line: line} }

func colon(line int) api.Token { return mark(api.TokColon, line) }

func comma(line int) api.Token { return mark(api.TokComma, line) }

func feed(line int) api.Token { return mark(api.TokLine, line) }

func end(line int) api.Token { return mark(api.TokEnd, line) }

// list is tokens in short.
func list(l ...api.Token) []api.Token { return l }

// short is the ends of a text: those of this stage are long.
func short(s string) string {
	if len(s) <= 60 {
		return fmt.Sprintf("%q", s)
	}
	return fmt.Sprintf("%q and so on, up to %q, of %d bytes", s[:20], s[len(s)-20:], len(s))
}

// hold tells whether a text's tokens are those that are asked for.
func hold(t *testing.T, s string, want []api.Token) {
	t.Helper()
	l, line, e := Read(s)
	if e != api.OK || line != 0 || !slices.Equal(l, want) {
		t.Errorf("%s: got %d tokens, %d, %d, want %d", short(s), len(l), line, e, len(want))
		if len(l) <= 20 && len(want) <= 20 {
			t.Errorf("got %v, want %v", l, want)
		}
	}
}

// refuse tells whether a text has an error at a line, and no tokens beside it.
func refuse(t *testing.T, s string, line int, want api.Errno) {
	t.Helper()
	l, at, e := Read(s)
	if e != want || at != line || len(l) != 0 {
		t.Errorf("%s: got %d tokens, %d, %d, want none, %d, %d", short(s), len(l), at, e, line, want)
	}
}

// rightWords are texts that are words.
func rightWords() []string {
	l := []string{"a", "z", "m", "aa", "az", "za", "a0", "z9", "a0b1c2", "a00", "a9999", "a10000", "op", "put", "set", "strict"}
	for _, c := range []string{"a", "z", "0", "9", "b3"} {
		s := "k" + strings.Repeat(c, 16)
		l = append(l, s[:2], s[:15], s[:16])
	}
	for c := 'a'; c <= 'z'; c++ {
		l = append(l, string(c), "q"+string(c))
	}
	for c := '0'; c <= '9'; c++ {
		l = append(l, "q"+string(c))
	}
	return l
}

// wrongWords are texts that begin as words may, or nearly so, or go on as they may not; they have no byte that parts tokens, and are no numbers.
func wrongWords() []string {
	l := []string{
		// A capital letter, in each place.
		"A", "Z", "Ab", "aB", "aBc", "abZ", "OP", "0A",
		// A digit ahead.
		"0a", "1a", "9z", "12ab", "1a2", "00a", "9999z", "0b1", "0x1", "1e3",
		// A '-' ahead, within, or behind.
		"-a", "a-", "a-b", "a-1", "a1-", "a--", "-a-", "ab-cd", "a-0", "-a1", "1-a", "-1a",
		// Bytes that no token has.
		"a_b", "_a", "a.", "a=b", "a+1", "a'b", "a\"", "a;", "(a)", "a/b", "a\x00", "a\x7f", "`a", "a{", "a@", "a[", "a/", "a\xff", "aé", "éa",
		// 17 bytes, and more.
		"k" + strings.Repeat("a", 16), "k" + strings.Repeat("9", 16), strings.Repeat("z", 17), strings.Repeat("b3", 9), strings.Repeat("a", 32), strings.Repeat("a", 4000), "a" + strings.Repeat("0", 4000),
	}
	for _, c := range []string{"B", "-", "_", "\x00"} {
		l = append(l, strings.Repeat("a", 15)+c, strings.Repeat("a", 16)+c, strings.Repeat("a", 17)+c)
	}
	return l
}

// rightNumbers are numbers by their only texts.
func rightNumbers() map[string]int {
	l := map[string]int{}
	for _, n := range []int{0, 1, 2, 9, 10, 11, 19, 90, 99, 100, 101, 999, 1000, 1001, 4096, 9990, 9998, 9999} {
		l[fmt.Sprint(n)], l[fmt.Sprint(-n)] = n, -n
	}
	return l
}

// wrongNumbers are texts that begin as numbers may, or nearly so, and are none; they have no byte that parts tokens.
func wrongNumbers() []string {
	l := []string{
		// A 0 ahead of others, and the -0.
		"-0", "00", "01", "-00", "-01", "000", "0000", "09999", "-09999", "00000", "0000000000001", "010", "-010", "08",
		// Too great ones.
		"10000", "-10000", "10001", "-10001", "12345", "99999", "-99999", "19999", "20000", "100000", "65536", "2147483648", "4294967296", "4294967297", "-4294967297",
		"9223372036854775807", "9223372036854775808", "-9223372036854775808", "-9223372036854775809", "18446744073709551615", "18446744073709551616", "18446744073709551617", "-18446744073709551617", "340282366920938463463374607431768211457",
		// A '-' where none may be.
		"-", "--", "---", "--1", "---1", "1-", "1-1", "1-2", "-1-", "-1-1", "0-", "0-1", "-0-", "9999-", "-9999-1", "a-", "a-1", "ab--", "10-20",
		// A letter, capital or not, or another byte.
		"1a", "0a", "-1a", "9999a", "1A", "-1Z", "0x10", "1e2", "1_0", "1_000", "+1", "+0", "1.0", "1.", ".1", "0b1", "0o7", "1é", "é1", "1\x00", "-\x00", "-\xff1", "1\xff", "1'", "1;", "−1", "١", "-١", "１", "1１",
	}
	for _, c := range []string{"1", "0", "9"} {
		for _, n := range []int{5, 6, 9, 10, 18, 19, 20, 21, 40, 255, 4000} {
			l = append(l, strings.Repeat(c, n), "-"+strings.Repeat(c, n), "1"+strings.Repeat("0", n)+c)
		}
	}
	return l
}

// strangeTexts are texts that no token begins with or goes on with: bytes, and runes, some of whose lowest bytes are those of tokens or blanks.
func strangeTexts() []string {
	l := []string{
		"é", "ß", "ñ", "ж", "中", "ª", "ﬁ", "š", "Ł", "š", "ű", "İ", "ı", "K", "ｱ", "ａ", "Ａ", "１", "٣", "²", "½", "Ⅷ", "−", "–", "‐", "：", "，", "＃",
		"\u0085", "\u00a0", "\u2028", "\u2029", "\u200b", "\ufeff", "\ufffd", "\u3000", "\u0301", "🂡", "\U0010ffff",
		"\u0109", "\u010a", "\u0120", "\u0123", "\u012c", "\u012d", "\u0130", "\u0139", "\u013a", "\u0161", "\u017a", "\u200a", "\u2020", "\U00010061", "\U0001000a", "\U00010020",
		"\xc3", "\xc3\x28", "\xe4\xb8", "\xed\xa0\x80", "\xf4\x90\x80\x80", "\xc0\xa0", "\xc1\xa1", "\xc0\x8a", "\xe0\x80\x8a", "\x80\x80",
	}
	for b := range 256 {
		if !strings.ContainsRune("abcdefghijklmnopqrstuvwxyz0123456789-:,# \t\n", rune(b)) {
			l = append(l, string([]byte{byte(b)}))
		}
	}
	return l
}

// Le1: the chapter's example.
func TestExample(t *testing.T) {
	hold(t, "op put: add a", list(word("op", 1), word("put", 1), colon(1), word("add", 1), word("a", 1), end(1)))
}

// Le1: tokens of ordinary lines, each with its line, and with nothing that is not its kind's.
func TestRuleSet(t *testing.T) {
	hold(t, "set cart\ncount left\n\n# of each one\nrule strict least left -20 # no less\nop take: up left 9,drop cart\n", list(
		word("set", 1), word("cart", 1), feed(1),
		word("count", 2), word("left", 2), feed(2),
		feed(3),
		feed(4),
		word("rule", 5), word("strict", 5), word("least", 5), word("left", 5), num(-20, 5), feed(5),
		word("op", 6), word("take", 6), colon(6), word("up", 6), word("left", 6), num(9, 6), comma(6), word("drop", 6), word("cart", 6), feed(6),
		end(7),
	))
}

// Le1: a text of no tokens has the end alone, in line 1, whichever blanks there are.
func TestNoTokens(t *testing.T) {
	for _, s := range []string{"", " ", "\t", "  ", "\t\t", " \t", "\t ", " \t \t ", strings.Repeat(" ", 4096), strings.Repeat("\t", 4096), strings.Repeat(" \t", 2048)} {
		hold(t, s, list(end(1)))
	}
}

// Le1: each line feed is a token of the line that it ends; the end is in the line behind the last one.
func TestLineFeeds(t *testing.T) {
	for s, want := range map[string][]api.Token{
		"\n":            list(feed(1), end(2)),
		"\n\n":          list(feed(1), feed(2), end(3)),
		"\n\n\n":        list(feed(1), feed(2), feed(3), end(4)),
		" \n\t\n \t":    list(feed(1), feed(2), end(3)),
		"a\n":           list(word("a", 1), feed(1), end(2)),
		"a\nb":          list(word("a", 1), feed(1), word("b", 2), end(2)),
		"a\nb\n":        list(word("a", 1), feed(1), word("b", 2), feed(2), end(3)),
		"\na":           list(feed(1), word("a", 2), end(2)),
		"\n\na\n\n":     list(feed(1), feed(2), word("a", 3), feed(3), feed(4), end(5)),
		"a \n b":        list(word("a", 1), feed(1), word("b", 2), end(2)),
		"1\n-1\n":       list(num(1, 1), feed(1), num(-1, 2), feed(2), end(3)),
		":\n,\n":        list(colon(1), feed(1), comma(2), feed(2), end(3)),
		"a\n\n\n\n\nb":  list(word("a", 1), feed(1), feed(2), feed(3), feed(4), feed(5), word("b", 6), end(6)),
		"#\n#\n# \n":    list(feed(1), feed(2), feed(3), end(4)),
		"a1\n1\nab\n99": list(word("a1", 1), feed(1), num(1, 2), feed(2), word("ab", 3), feed(3), num(99, 4), end(4)),
	} {
		hold(t, s, want)
	}
}

// around is texts that a token stands between, and the tokens that are ahead of it and behind it, when it stands in its line.
func around() []struct {
	ahead, behind string
	line          int
	first, last   []api.Token
} {
	return []struct {
		ahead, behind string
		line          int
		first, last   []api.Token
	}{
		{"", "", 1, nil, list(end(1))},
		{" ", " ", 1, nil, list(end(1))},
		{"\t", "\t", 1, nil, list(end(1))},
		{"", "\n", 1, nil, list(feed(1), end(2))},
		{"\n", "", 2, list(feed(1)), list(end(2))},
		{"", "#", 1, nil, list(end(1))},
		{"", "#z9-\n", 1, nil, list(feed(1), end(2))},
		{"#z\n", "", 2, list(feed(1)), list(end(2))},
		{":", ":", 1, list(colon(1)), list(colon(1), end(1))},
		{",", ",", 1, list(comma(1)), list(comma(1), end(1))},
		{"x ", " y", 1, list(word("x", 1)), list(word("y", 1), end(1))},
		{"7 ", " -7", 1, list(num(7, 1)), list(num(-7, 1), end(1))},
		{"\n\n x,", ":8", 3, list(feed(1), feed(2), word("x", 3), comma(3)), list(colon(3), num(8, 3), end(3))},
	}
}

// Le1: words of 1 to 16 bytes, wherever they stand.
func TestWords(t *testing.T) {
	for _, w := range rightWords() {
		for _, c := range around() {
			hold(t, c.ahead+w+c.behind, slices.Concat(c.first, list(word(w, c.line)), c.last))
		}
	}
}

// Le1: numbers from -9999 to 9999, wherever they stand.
func TestNumbers(t *testing.T) {
	for s, n := range rightNumbers() {
		for _, c := range around() {
			hold(t, c.ahead+s+c.behind, slices.Concat(c.first, list(num(n, c.line)), c.last))
		}
	}
}

// Le1: all of them are told, and none beyond.
func TestAllNumbers(t *testing.T) {
	for n := -10010; n <= 10010; n++ {
		s := fmt.Sprint(n)
		if n < -9999 || n > 9999 {
			refuse(t, s, 1, api.ErrText)
		} else {
			hold(t, s, list(num(n, 1), end(1)))
		}
	}
}

// Le1: a word or a number that can't be, and a byte that no token can begin with or go on with, is told with its line, wherever it stands.
func TestWrongTokens(t *testing.T) {
	for _, s := range slices.Concat(wrongWords(), wrongNumbers(), strangeTexts()) {
		for _, c := range around() {
			refuse(t, c.ahead+s+c.behind, c.line, api.ErrText)
		}
		refuse(t, s+"\n\nB", 1, api.ErrText)
		refuse(t, "a\n\n"+s+"\n"+s[:min(len(s), 20)], 3, api.ErrText)
	}
}

// Le1: a strange byte is told where it stands right ahead of a token, right behind it, or within it, in the first line and in later ones.
func TestStrangeBytes(t *testing.T) {
	for _, s := range strangeTexts() {
		for _, c := range []string{"a", "ab", "0", "12", "-3", ":", ",", " ", "\t"} {
			refuse(t, c+s, 1, api.ErrText)
			refuse(t, s+c, 1, api.ErrText)
			refuse(t, c+s+c, 1, api.ErrText)
			refuse(t, "a\n\n"+c+s+c+"\nb", 3, api.ErrText)
			refuse(t, "a b # c\n1 : \n # \n"+c+" "+s, 4, api.ErrText)
		}
		refuse(t, "a"+s+"\n", 1, api.ErrText)
		refuse(t, "a\n"+s+"\n", 2, api.ErrText)
		refuse(t, "a#\n"+s+"#", 2, api.ErrText)
	}
	// A carriage return is no blank, also ahead of a line feed.
	refuse(t, "a\r\nb\r\n", 1, api.ErrText)
	refuse(t, "a\n\r\nb", 2, api.ErrText)
	hold(t, "a#\r\nb", list(word("a", 1), feed(1), word("b", 2), end(2)))
}

// Le1: the first one that can't be is told, not a later one.
func TestFirstWrongOne(t *testing.T) {
	for _, s := range []string{"B", "-0", "10000", "a-", "\xff", "\r", "\x00", strings.Repeat("a", 17)} {
		for n := range 20 {
			ahead := strings.Repeat("op x: 1\n", n)
			refuse(t, ahead+s, n+1, api.ErrText)
			refuse(t, ahead+s+"\n"+s, n+1, api.ErrText)
			refuse(t, ahead+"a "+s+"\n\n\n"+s, n+1, api.ErrText)
		}
	}
}

// Le1: a colon and a comma need no blanks about them, and may have some.
func TestMarks(t *testing.T) {
	for s, m := range map[string]func(int) api.Token{":": colon, ",": comma} {
		for _, b := range []string{"", " ", "\t", " \t "} {
			hold(t, s+b, list(m(1), end(1)))
			hold(t, b+s, list(m(1), end(1)))
			hold(t, b+s+b+s+b, list(m(1), m(1), end(1)))
			hold(t, "a"+b+s+b+"b", list(word("a", 1), m(1), word("b", 1), end(1)))
			hold(t, "a1"+b+s+b+"1", list(word("a1", 1), m(1), num(1, 1), end(1)))
			hold(t, "0"+b+s+b+"-1", list(num(0, 1), m(1), num(-1, 1), end(1)))
			hold(t, "-9"+b+s+b+"a\n"+b+s, list(num(-9, 1), m(1), word("a", 1), feed(1), m(2), end(2)))
			hold(t, ":"+b+s+b+",", list(colon(1), m(1), comma(1), end(1)))
			hold(t, s+b+"#"+s, list(m(1), end(1)))
		}
		refuse(t, "-"+s, 1, api.ErrText)
		refuse(t, s+"-", 1, api.ErrText)
	}
}

// Le1: blanks of both bytes part words and numbers.
func TestBlanks(t *testing.T) {
	for _, b := range []string{" ", "\t", "  ", "\t\t", " \t", "\t ", strings.Repeat(" ", 1000)} {
		hold(t, "a"+b+"b"+b+"1"+b+"-1"+b+"c", list(word("a", 1), word("b", 1), num(1, 1), num(-1, 1), word("c", 1), end(1)))
		hold(t, b+"a"+b, list(word("a", 1), end(1)))
		hold(t, "0"+b+"1", list(num(0, 1), num(1, 1), end(1)))
		refuse(t, "-"+b+"1", 1, api.ErrText)
		refuse(t, "1"+b+"-", 1, api.ErrText)
		refuse(t, "-"+b+"-1", 1, api.ErrText)
	}
}

// Le1: a '#' and all up to the end of its line are as blanks, whatever stands there.
func TestRemarks(t *testing.T) {
	bodies := slices.Concat([]string{"", " ", "#", "##", "a", "1", ":", ",", "a b 1", "B", "-0", "- -"}, wrongWords(), wrongNumbers(), strangeTexts())
	for _, s := range bodies {
		if len(s) > 500 {
			s = s[:500]
		}
		r := "#" + s
		hold(t, r, list(end(1)))
		hold(t, " \t"+r, list(end(1)))
		hold(t, r+"\n", list(feed(1), end(2)))
		hold(t, r+"\n"+r, list(feed(1), end(2)))
		hold(t, r+"\na", list(feed(1), word("a", 2), end(2)))
		hold(t, "a"+r, list(word("a", 1), end(1)))
		hold(t, "a "+r+"\nb", list(word("a", 1), feed(1), word("b", 2), end(2)))
		hold(t, "12"+r+"\n3", list(num(12, 1), feed(1), num(3, 2), end(2)))
		hold(t, "a:"+r+"\n,b"+r, list(word("a", 1), colon(1), feed(1), comma(2), word("b", 2), end(2)))
		refuse(t, "-"+r, 1, api.ErrText)
		refuse(t, "B"+r, 1, api.ErrText)
		refuse(t, r+"\nB", 2, api.ErrText)
		refuse(t, "a-"+r, 1, api.ErrText)
	}
}

// fill is a text with blanks, in its first line, up to so many bytes.
func fill(s string, n int) string { return strings.Repeat(" ", n-len(s)) + s }

// Le1: a text of 4096 bytes is read; one of more is ErrBig with 0, whatever it has.
func TestTextBounds(t *testing.T) {
	for _, c := range []struct {
		s    string
		want []api.Token
	}{
		{"", list(end(1))},
		{"a", list(word("a", 1), end(1))},
		{"-9999", list(num(-9999, 1), end(1))},
		{"\n", list(feed(1), end(2))},
		{"a\n:\n", list(word("a", 1), feed(1), colon(2), feed(2), end(3))},
		{"#é\xff", list(end(1))},
	} {
		hold(t, fill(c.s, 4095), c.want)
		hold(t, fill(c.s, 4096), c.want)
		refuse(t, fill(c.s, 4097), 0, api.ErrBig)
		refuse(t, fill(c.s, 4098), 0, api.ErrBig)
	}
	for _, s := range []string{"B", "-0", "10000", strings.Repeat("a", 17), "a\n\x00", "é", "\xff"} {
		line := 1 + strings.Count(s, "\n")
		refuse(t, fill(s, 4096), line, api.ErrText)
		refuse(t, fill(s, 4097), 0, api.ErrBig)
		refuse(t, s+strings.Repeat(" ", 4097-len(s)), 0, api.ErrBig)
	}
	for _, s := range []string{"a ", "a\n", "1 ", ":", ",", "\n", "#", "\x00", "B"} {
		refuse(t, strings.Repeat(s, 5000), 0, api.ErrBig)
		refuse(t, strings.Repeat(s, 1<<20), 0, api.ErrBig)
	}
}

// Le1: it is bytes that are counted, not runes.
func TestTextBoundsOfRunes(t *testing.T) {
	for _, r := range []string{"é", "中", "🂡"} {
		s := "#" + strings.Repeat(r, 4095/len(r))
		s += strings.Repeat(" ", 4096-len(s))
		hold(t, s, list(end(1)))
		refuse(t, s+" ", 0, api.ErrBig)
		refuse(t, "#"+strings.Repeat(r, 4000), 0, api.ErrBig)
		if n := utf8.RuneCountInString(s + " "); n > 4096 {
			t.Errorf("%q: %d runes", r, n)
		}
	}
}

// units are texts of one token each, and what it is in a line.
func units() map[string]func(int) api.Token {
	return map[string]func(int) api.Token{
		"a ":   func(line int) api.Token { return word("a", line) },
		"b1\t": func(line int) api.Token { return word("b1", line) },
		"0 ":   func(line int) api.Token { return num(0, line) },
		"-12 ": func(line int) api.Token { return num(-12, line) },
		":":    colon,
		",":    comma,
	}
}

// many is so many tokens of one line, the first one.
func many(n int, token func(int) api.Token) []api.Token { return slices.Repeat(list(token(1)), n) }

// feeds is so many line feeds.
func feeds(n int) []api.Token {
	var l []api.Token
	for i := range n {
		l = append(l, feed(i+1))
	}
	return l
}

// Le1: 799 and 800 tokens, the end counted with them, are told; 801 are ErrBig, in the line of the 801st, also if that is the end.
func TestTokenBounds(t *testing.T) {
	for s, token := range units() {
		for _, n := range []int{797, 798, 799} {
			hold(t, strings.Repeat(s, n), append(many(n, token), end(1)))
			hold(t, strings.TrimRight(strings.Repeat(s, n), " \t"), append(many(n, token), end(1)))
			hold(t, strings.Repeat(s, n-1)+"\n", append(many(n-1, token), feed(1), end(2)))
			hold(t, strings.Repeat(s, n-2)+"\n"+s, append(many(n-2, token), feed(1), token(2), end(2)))
		}
		for _, n := range []int{800, 801, 802, 1000} {
			refuse(t, strings.Repeat(s, n), 1, api.ErrBig)
			refuse(t, strings.TrimRight(strings.Repeat(s, n), " \t"), 1, api.ErrBig)
			refuse(t, strings.Repeat(s, n)+"\n"+s, 1, api.ErrBig)
		}
		// The 801st is the end, in the line behind, or a token there.
		refuse(t, strings.Repeat(s, 799)+"\n", 2, api.ErrBig)
		refuse(t, strings.Repeat(s, 799)+"\n"+s, 2, api.ErrBig)
		refuse(t, strings.Repeat(s, 799)+"# z\n \t", 2, api.ErrBig)
		refuse(t, strings.Repeat(s, 797)+"\n\n\n", 4, api.ErrBig)
		refuse(t, strings.Repeat(s, 797)+"\n\n\n#", 4, api.ErrBig)
		refuse(t, "\n\n"+strings.Repeat(s, 798), 3, api.ErrBig)
		refuse(t, "\n\n"+strings.Repeat(s, 798)+"\n\n", 3, api.ErrBig)
		refuse(t, "\n\n"+strings.Repeat(s, 797)+"\n\n", 4, api.ErrBig)
		// The 801st is a line feed: its line is the one that it ends.
		refuse(t, strings.Repeat(s, 800)+"\n", 1, api.ErrBig)
	}
}

// Le1: line feeds are counted as others.
func TestTokenBoundsOfLines(t *testing.T) {
	for _, n := range []int{797, 798, 799} {
		hold(t, strings.Repeat("\n", n), append(feeds(n), end(n+1)))
		hold(t, strings.Repeat("#B\n", n), append(feeds(n), end(n+1)))
	}
	hold(t, strings.Repeat("\n", 798)+"a", append(feeds(798), word("a", 799), end(799)))
	refuse(t, strings.Repeat("\n", 799)+"a", 800, api.ErrBig)
	refuse(t, strings.Repeat("\n", 800), 801, api.ErrBig)
	refuse(t, strings.Repeat("\n", 800)+"a", 801, api.ErrBig)
	refuse(t, strings.Repeat("\n", 801), 801, api.ErrBig)
	refuse(t, strings.Repeat("\n", 4096), 801, api.ErrBig)
	refuse(t, strings.Repeat("a\n", 400), 401, api.ErrBig)
	refuse(t, strings.Repeat("a\n", 401), 401, api.ErrBig)
	refuse(t, "a "+strings.Repeat("a\n", 400), 400, api.ErrBig)
}

// Le1: of a byte that can't be, and the token that is one too many, the first one is told, in one line and in two.
func TestWhichComesFirst(t *testing.T) {
	for s := range units() {
		for _, x := range []string{"B", "\x00", "é", "\xff", "-", "-0", "01", "10000", "a-", "1a", strings.Repeat("a", 17)} {
			for _, n := range []int{0, 1, 798, 799, 800} {
				// There are no more than 800 tokens ahead of it.
				refuse(t, strings.Repeat(s, n)+x, 1, api.ErrText)
				refuse(t, strings.Repeat(s, n)+x+" "+strings.Repeat(",", 850), 1, api.ErrText)
				refuse(t, strings.Repeat(s, n)+" \t"+x+"\n"+strings.Repeat(":", 801), 1, api.ErrText)
			}
			for _, n := range []int{0, 1, 798, 799} {
				refuse(t, strings.Repeat(s, n)+"\n"+x, 2, api.ErrText)
				refuse(t, strings.Repeat(s, n)+"\n"+x+"\n"+strings.Repeat(":", 801), 2, api.ErrText)
			}
			refuse(t, strings.Repeat(s, 797)+"\n\n\n"+x, 4, api.ErrText)
			for _, n := range []int{801, 802, 900} {
				// The 801st stands ahead of it.
				refuse(t, strings.Repeat(s, n)+x, 1, api.ErrBig)
				refuse(t, strings.Repeat(s, n)+" "+x, 1, api.ErrBig)
				refuse(t, strings.Repeat(s, n)+"\n"+x, 1, api.ErrBig)
			}
			refuse(t, strings.Repeat(s, 800)+"\n"+x, 1, api.ErrBig)
			refuse(t, strings.Repeat(s, 799)+"\n"+s+x, 2, api.ErrBig)
			refuse(t, strings.Repeat(s, 799)+"\n\n"+x, 2, api.ErrBig)
		}
	}
}

// Le1: what can't be is no 801st token; one that can be is it, also right ahead of a byte that can't.
func TestWhichIsOneTooMany(t *testing.T) {
	for s := range units() {
		for _, x := range []string{"a-", "a-1", "1a", "1-", "01", "-", strings.Repeat("a", 17)} {
			refuse(t, strings.Repeat(s, 800)+x, 1, api.ErrText)
			refuse(t, strings.Repeat(s, 799)+"\n"+x, 2, api.ErrText)
		}
		for _, x := range []string{"a", "a1", "0", "-9999", ":", ",", strings.Repeat("a", 16)} {
			for _, b := range []string{"", " ", ";", "\x00", "\r", "\x7f", "#", "\n", ":"} {
				refuse(t, strings.Repeat(s, 800)+x+b, 1, api.ErrBig)
				refuse(t, strings.Repeat(s, 799)+"\n"+x+b, 2, api.ErrBig)
			}
		}
	}
}

// Le1: Word tells whether a text is a word, all of it.
func TestWord(t *testing.T) {
	for _, s := range rightWords() {
		if !Word(s) {
			t.Errorf("%q is a word", s)
		}
		for _, x := range []string{" ", "\t", "\n", "\r", "\x00", ":", ",", "#", "-", "B", "é", "\xff"} {
			if Word(s+x) || Word(x+s) || Word(s+x+s) {
				t.Errorf("%q with %q is none", s, x)
			}
		}
	}
	wrong := slices.Concat([]string{"", " ", "\n", ":", ",", "#", "a b", "a\nb", "a#"}, wrongWords(), wrongNumbers(), strangeTexts())
	for s := range rightNumbers() {
		wrong = append(wrong, s)
	}
	for _, s := range wrong {
		if Word(s) {
			t.Errorf("%q is no word", s)
		}
	}
}

// Le1: bytes are looked at in each of a word's places.
func TestWordOfTwoBytes(t *testing.T) {
	letter := func(b int) bool { return b >= 97 && b <= 122 }
	for a := range 256 {
		if got := Word(string([]byte{byte(a)})); got != letter(a) {
			t.Errorf("byte %d: got %v", a, got)
		}
		for b := range 256 {
			want := letter(a) && (letter(b) || b >= 48 && b <= 57)
			if got := Word(string([]byte{byte(a), byte(b)})); got != want {
				t.Errorf("bytes %d and %d: got %v", a, b, got)
			}
		}
	}
}

// R4 and R7a: an answer hangs on the text alone, and no two answers share memory.
func TestAnswersApart(t *testing.T) {
	s := "op put: add a\nrule limit a -3"
	first, _, _ := Read(s)
	want := slices.Clone(first)
	for i := range first {
		first[i] = api.Token{Kind: 77, Text: "x", N: 7, Line: 700}
	}
	_ = append(first, word("more", 1))
	hold(t, s, want)
	refuse(t, "a\n\nB", 3, api.ErrText)
	refuse(t, strings.Repeat(":", 801), 1, api.ErrBig)
	hold(t, s, want)
}
