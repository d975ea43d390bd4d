package parse

import (
	"math/rand"
	"regexp"
	"slices"
	"strconv"
	"strings"
	"testing"

	"huckster/api"
	"huckster/lex"
)

// forms are the lines, as the chapter lists them, with one blank between tokens; N is a name, I a number.
var forms = []struct {
	kind int
	line *regexp.Regexp
}{
	{api.DeclSet, form(`set (N)`)},
	{api.DeclCount, form(`count (N)`)},
	{api.DeclNote, form(`note (N)`)},
	{api.DeclRef, form(`rule (?:strict )?ref (N) (N)`)},
	{api.DeclBoth, form(`rule (?:strict )?both (N) (N)`)},
	{api.DeclNeeds, form(`rule (?:strict )?needs (N) (N)`)},
	{api.DeclLimit, form(`rule (?:strict )?limit (N) (I)`)},
	{api.DeclMost, form(`rule (?:strict )?most (N) (I)`)},
	{api.DeclLeast, form(`rule (?:strict )?least (N) (I)`)},
	{api.DeclOp, form(`op (N) : (D(?: , D){0,15})`)},
}

// form is a line's form, all of the line.
func form(s string) *regexp.Regexp {
	s = strings.ReplaceAll(s, "D", `(?:(?:add|drop|put) N|(?:up|down) N I)`)
	s = strings.ReplaceAll(s, "N", `[a-z][a-z0-9]*`)
	return regexp.MustCompile(`^` + strings.ReplaceAll(s, "I", `-?[0-9]+`) + `$`)
}

// spaced is a line's tokens with one blank between, without its remark.
func spaced(s string) string {
	s, _, _ = strings.Cut(s, "#")
	s = strings.ReplaceAll(strings.ReplaceAll(s, ":", " : "), ",", " , ")
	return strings.Join(strings.Fields(s), " ")
}

// asDeeds is what the text of deeds says, and whether its names may be.
func asDeeds(s string) ([]api.Deed, bool) {
	kinds := map[string]int{"add": api.EffAdd, "drop": api.EffDrop, "put": api.EffSet, "up": api.EffUp, "down": api.EffDown}
	var l []api.Deed
	for _, one := range strings.Split(s, " , ") {
		part := strings.Fields(one)
		x := api.Deed{Kind: kinds[part[0]], Name: part[1]}
		if slices.Contains(keptWords(), x.Name) {
			return nil, false
		}
		if len(part) == 3 {
			x.N, _ = strconv.Atoi(part[2])
		}
		l = append(l, x)
	}
	return l, true
}

// asDecl is what a line of these parts says, and whether its names may be.
func asDecl(kind int, text string, parts []string) (api.Decl, bool) {
	x := api.Decl{Kind: kind, Name: parts[0], Strict: strings.HasPrefix(text, "rule strict ")}
	may := !slices.Contains(keptWords(), x.Name)
	switch kind {
	case api.DeclRef, api.DeclBoth, api.DeclNeeds:
		x.Other = parts[1]
		may = may && !slices.Contains(keptWords(), x.Other)
	case api.DeclLimit, api.DeclMost, api.DeclLeast:
		x.N, _ = strconv.Atoi(parts[1])
	case api.DeclOp:
		l, right := asDeeds(parts[1])
		x.Does, may = l, may && right
	}
	return x, may
}

// asLine is what a line with tokens says, but for its number, and whether it is one of the forms.
func asLine(s string) (api.Decl, bool) {
	for _, f := range forms {
		if parts := f.line.FindStringSubmatch(s); parts != nil {
			return asDecl(f.kind, s, parts[1:])
		}
	}
	return api.Decl{}, false
}

// asPromised is Pa1's answer, by its words: layer 14's error, then the first line that is none of the forms, then the 61st one.
func asPromised(s string) ([]api.Decl, int, api.Errno) {
	if _, at, e := lex.Read(s); e != api.OK {
		return nil, at, e
	}
	var l []api.Decl
	for i, one := range strings.Split(s, "\n") {
		one = spaced(one)
		if one == "" {
			continue
		}
		x, is := asLine(one)
		if !is {
			return nil, i + 1, api.ErrText
		}
		x.Line = i + 1
		l = append(l, x)
	}
	if len(l) > 60 {
		return nil, l[60].Line, api.ErrBig
	}
	return l, 0, api.OK
}

// holdPromised tells whether a text's answer is as Pa1 says, and which error it has.
func holdPromised(t *testing.T, s string) api.Errno {
	t.Helper()
	want, line, e := asPromised(s)
	if e == api.OK {
		hold(t, s, want)
	} else {
		refuse(t, s, line, e)
	}
	return e
}

// tokens are texts of one token each: all kept words, two names, two numbers, marks and a line feed.
func tokens() []string {
	return slices.Concat(keptWords(), []string{"a", "b1", "1", "-20", ":", ",", "\n"})
}

// few are those of them with which all kinds of lines can be told.
func few() []string {
	return []string{"set", "rule", "strict", "ref", "limit", "op", "add", "up", "a", "1", ":", ",", "\n"}
}

// eachText goes through all texts of so many tokens, or fewer, behind some others.
func eachText(s string, tokens []string, most int, see func(string)) {
	see(s)
	if most == 0 {
		return
	}
	for _, x := range tokens {
		eachText(s+" "+x, tokens, most-1, see)
	}
}

// Pa1: all texts of few tokens are told as its words say; so are they behind what begins a line.
func TestAllFewTokens(t *testing.T) {
	see := func(s string) { holdPromised(t, s) }
	eachText("", tokens(), 3, see)
	eachText("", few(), 4, see)
	for _, s := range []string{"set", "count a", "note a \n", "rule", "rule strict", "rule ref a", "rule limit", "rule strict needs", "op", "op a", "op a :", "op a : up", "op a : add b", "op a : add b ,", "op a : down b 1", "op a : put b \n"} {
		eachText(s, tokens(), 2, see)
		eachText(s, few(), 3, see)
	}
}

// wholes are texts whose lines may be, of all kinds, with blanks about all tokens.
func wholes() []string {
	l := []string{
		"set a \n count b \n note c",
		"rule ref a b \n \n rule strict limit a 3",
		"op x : add a , up b 1 , put c",
		"rule strict least b -20 \n op x : down b 2 , drop a \n set a",
	}
	for _, c := range ones("a", "b", 5) {
		l = append(l, strings.ReplaceAll(strings.ReplaceAll(c.text, ":", " : "), "\t", " "))
	}
	deeds, _ := someDeeds(16, 2)
	return append(l, "op x : "+strings.Join(deeds, " , "))
}

// eachChange goes through the texts that come of one by a token that is left out, put in, or another one.
func eachChange(s string, see func(string)) {
	all := strings.Split(s, " ")
	for i := range len(all) + 1 {
		for _, x := range tokens() {
			see(strings.Join(slices.Concat(all[:i], []string{x}, all[i:]), " "))
			if i < len(all) {
				see(strings.Join(slices.Concat(all[:i], []string{x}, all[i+1:]), " "))
			}
		}
		if i < len(all) {
			see(strings.Join(slices.Concat(all[:i], all[i+1:]), " "))
			see(strings.Join(all[:i], " "))
			see(strings.Join(all[i:], " "))
		}
	}
}

// Pa1: what is one token away from lines that may be, or two, is told as its words say.
func TestChangedTexts(t *testing.T) {
	for _, s := range wholes() {
		if _, _, e := Lines(s); e != api.OK {
			t.Errorf("%q: got %d", s, e)
		}
		eachChange(s, func(s string) { holdPromised(t, s) })
	}
	for _, s := range []string{"set a", "rule strict least a 1", "op x : up a 1"} {
		eachChange(s, func(s string) { eachChange(s, func(s string) { holdPromised(t, s) }) })
	}
}

// someLine is a random line, most often one that may be.
func someLine(r *rand.Rand) string {
	names := []string{"a", "b", "cart", "k1", "setx"}
	if r.Intn(300) == 0 {
		names = append(names, keptWords()...)
	}
	name := func() string { return names[r.Intn(len(names))] }
	number := func() string { return strconv.Itoa(r.Intn(19999) - 9999) }
	one := func(l ...string) string { return l[r.Intn(len(l))] }
	clause := one("rule ", "rule strict ", "\trule  ")
	switch r.Intn(6) {
	case 0:
		return one("", " ", "# set", "\t#", "")
	case 1:
		return one("set ", "count ", "note\t") + name() + one("", " ", "#b")
	case 2:
		return clause + one("ref ", "both ", "needs ") + name() + " " + name()
	case 3:
		return clause + one("limit ", "most ", "least ") + name() + " " + number()
	}
	var l []string
	for range 1 + r.Intn(4) {
		l = append(l, one(one("add ", "drop ", "put ")+name(), one("up ", "down ")+name()+" "+number()))
	}
	return "op " + name() + one(":", ": ", " : ") + strings.Join(l, one(",", ", ", " , "))
}

// someLines is so many random lines, or fewer.
func someLines(r *rand.Rand, most int) string {
	var l []string
	for range r.Intn(most + 1) {
		l = append(l, someLine(r))
	}
	return strings.Join(l, "\n")
}

// spoilt is a text with a random token more, or less a piece, or as it was.
func spoilt(r *rand.Rand, s string) string {
	i := r.Intn(len(s) + 1)
	switch r.Intn(4) {
	case 0:
		all := append(tokens(), "B", "#", "-")
		return s[:i] + " " + all[r.Intn(len(all))] + " " + s[i:]
	case 1:
		return s[:i] + s[min(len(s), i+r.Intn(6)):]
	}
	return s
}

// Pa1: random texts are told so, with few lines, many, and too many.
func TestRandomTexts(t *testing.T) {
	r := rand.New(rand.NewSource(15))
	told := map[api.Errno]int{}
	for range 20000 {
		told[holdPromised(t, spoilt(r, someLines(r, 8)))]++
	}
	for range 2000 {
		told[holdPromised(t, spoilt(r, strings.Repeat(someLine(r)+"\n", r.Intn(64))+someLines(r, 90)))]++
	}
	for e, least := range map[api.Errno]int{api.OK: 1000, api.ErrText: 1000, api.ErrBig: 300} {
		if told[e] < least {
			t.Errorf("only %d texts of error %d", told[e], e)
		}
	}
}

// moved are lines that stand so many lines further behind.
func moved(l []api.Decl, n int) []api.Decl {
	l = slices.Clone(l)
	for i := range l {
		l[i].Line += n
	}
	return l
}

// holdTogether tells whether two texts, with a line feed between, have the lines of both, or the error of the first one that has one.
func holdTogether(t *testing.T, a, b string) {
	t.Helper()
	both := a + "\n" + b
	n := strings.Count(a, "\n") + 1
	if _, _, e := lex.Read(both); e != api.OK {
		holdPromised(t, both)
		return
	}
	first, line, e := Lines(a)
	second, at, f := Lines(b)
	switch {
	case e == api.ErrText:
		refuse(t, both, line, e)
	case f == api.ErrText:
		refuse(t, both, at+n, f)
	case e == api.ErrBig:
		refuse(t, both, line, e)
	case f == api.ErrBig:
		refuse(t, both, n+lineOf(b, 61-len(first)), f)
	case len(first)+len(second) > 60:
		refuse(t, both, slices.Concat(first, moved(second, n))[60].Line, api.ErrBig)
	default:
		hold(t, both, slices.Concat(first, moved(second, n)))
	}
}

// lineOf is where the line of a number stands, among those of a text that have tokens.
func lineOf(s string, number int) int {
	for i, one := range strings.Split(s, "\n") {
		if spaced(one) != "" {
			number--
		}
		if number == 0 {
			return i + 1
		}
	}
	return 0
}

// Pa2: two texts put together have the lines of both: of some that may be, some that may not, and some with no lines.
func TestTwoTexts(t *testing.T) {
	l := []string{"", " ", "\n", "#", "# a\n\n", "\nset a\n", "set a\nset a", "op x: add a, add b\n\nop y: drop b", "set", "op x:", "set a\nset", "set\nset a", ",", "add a", "op x: add a,", ": add a", "ref a b", "set a\n\n\nrule", "B", "set a\n-0"}
	for _, c := range ones("a", "b", 0) {
		l = append(l, c.text)
	}
	for _, n := range []int{29, 30, 31, 59, 60, 61, 62} {
		l = append(l, strings.Repeat("set a\n", n), strings.Repeat("\nop x: add a", n), strings.Repeat("#\n\nset a\n", n))
	}
	for _, a := range l {
		for _, b := range l {
			holdTogether(t, a, b)
		}
	}
}

// Pa2: random texts too.
func TestTwoRandomTexts(t *testing.T) {
	r := rand.New(rand.NewSource(51))
	for range 5000 {
		holdTogether(t, spoilt(r, someLines(r, 6)), spoilt(r, someLines(r, 6)))
	}
	for range 500 {
		holdTogether(t, someLines(r, 60), someLines(r, 60))
		holdTogether(t, strings.Repeat(someLine(r)+"\n", 40+r.Intn(30)), someLines(r, 40))
		holdTogether(t, someLines(r, 40), strings.Repeat(someLine(r)+"\n", 40+r.Intn(30)))
	}
}

// Pa2: each line of a text is told as it is alone.
func TestEachLineAlone(t *testing.T) {
	r := rand.New(rand.NewSource(2))
	for range 3000 {
		s := someLines(r, 12)
		all, _, e := Lines(s)
		if e != api.OK {
			continue
		}
		var want []api.Decl
		for i, one := range strings.Split(s, "\n") {
			l, _, e := Lines(one)
			if e != api.OK || len(l) > 1 {
				t.Errorf("%q: got %v, %d", one, l, e)
			}
			want = append(want, moved(l, i)...)
		}
		if !alike(all, want) {
			t.Errorf("%s: got %v, want %v", short(s), all, want)
		}
	}
}
