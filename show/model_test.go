package show

import (
	"math/rand"
	"slices"
	"strconv"
	"strings"
	"testing"

	"huckster/api"
	"huckster/lex"
	"huckster/sorts"
)

// asTokens are the tokens of all lines of rules that may be, line by line, by the words of layer 15.
func asTokens(r api.Rules) [][]string {
	var l [][]string
	for i, some := range [][]string{r.Sets, r.Counts, r.Notes} {
		for _, name := range some {
			l = append(l, []string{[]string{"set", "count", "note"}[i], name})
		}
	}
	for _, c := range r.Clauses {
		l = append(l, tokensOfClause(r, c))
	}
	for _, o := range r.Opers {
		one := []string{"op", o.Name}
		for i, d := range o.Does {
			between := ","
			if i == 0 {
				between = ":"
			}
			one = append(append(one, between), tokensOfDeed(r, d)...)
		}
		l = append(l, one)
	}
	return l
}

// tokensOfClause are those of a clause's line.
func tokensOfClause(r api.Rules, c api.Clause) []string {
	word := map[int]string{api.DeclRef: "ref", api.DeclBoth: "both", api.DeclLimit: "limit", api.DeclMost: "most", api.DeclLeast: "least", api.DeclNeeds: "needs"}[c.Kind]
	l := []string{"rule", "strict", word}
	if !c.Strict || word == "least" {
		l = []string{"rule", word}
	}
	if slices.Contains([]string{"ref", "both", "limit"}, word) {
		l = append(l, r.Sets[c.A])
	} else {
		l = append(l, r.Counts[c.A])
	}
	if slices.Contains([]string{"ref", "both", "needs"}, word) {
		return append(l, r.Sets[c.B])
	}
	return append(l, strconv.Itoa(c.N))
}

// tokensOfDeed are those of a deed.
func tokensOfDeed(r api.Rules, d api.Doing) []string {
	word := map[int]string{api.EffAdd: "add", api.EffDrop: "drop", api.EffUp: "up", api.EffDown: "down", api.EffSet: "put"}[d.Kind]
	switch word {
	case "add", "drop":
		return []string{word, r.Sets[d.Of]}
	case "put":
		return []string{word, r.Notes[d.Of]}
	}
	return []string{word, r.Counts[d.Of], strconv.Itoa(d.N)}
}

// asText is the text of rules that may be, by the chapter's words: one blank between tokens, but none ahead of the signs, and line feeds.
func asText(r api.Rules) string {
	var b strings.Builder
	for _, line := range asTokens(r) {
		for i, token := range line {
			if i > 0 && token != ":" && token != "," {
				b.WriteString(" ")
			}
			b.WriteString(token)
		}
		b.WriteString("\n")
	}
	return b.String()
}

// dice are random choices.
type dice struct{ *rand.Rand }

// name is a random name that none of some is, of one sign to sixteen.
func (d dice) name(taken map[string]int) string {
	for {
		s := []byte{byte('a' + d.Intn(26))}
		for range d.Intn(d.Intn(16) + 1) {
			s = append(s, "abcdefghijklmnopqrstuvwxyz0123456789"[d.Intn(36)])
		}
		taken[string(s)]++
		kept := strings.Fields("set count note rule op strict ref both limit most least needs add drop up down put")
		if taken[string(s)] == 1 && !slices.Contains(kept, string(s)) {
			return string(s)
		}
	}
}

// names are so many names.
func (d dice) names(taken map[string]int, n int) []string {
	var l []string
	for range n {
		l = append(l, d.name(taken))
	}
	return l
}

// number is one within bounds, often one of these.
func (d dice) number(least, most int) int {
	switch d.Intn(4) {
	case 0:
		return least
	case 1:
		return most
	}
	return least + d.Intn(most-least+1)
}

// clause is a random clause of rules, which may have two sets and a count, or none; floors are the counts that have one.
func (d dice) clause(r api.Rules, floors map[int]int) (api.Clause, bool) {
	c := api.Clause{Kind: api.DeclRef + d.Intn(6)}
	sets, counts := len(r.Sets), len(r.Counts)
	if sets < 2 || counts < 1 {
		return c, false
	}
	switch c.Kind {
	case api.DeclRef, api.DeclBoth:
		c.A, c.B, c.Strict = d.Intn(sets), d.Intn(sets), d.Intn(2) == 0
		return c, c.A != c.B
	case api.DeclNeeds:
		c.A, c.B, c.Strict = d.Intn(counts), d.Intn(sets), d.Intn(2) == 0
	case api.DeclLimit:
		c.A, c.N = d.Intn(sets), d.number(0, 1000)
	case api.DeclMost:
		c.A, c.N = d.Intn(counts), d.number(0, 1000)
	case api.DeclLeast:
		c.A, c.N, c.Strict = d.Intn(counts), d.number(-1000, 0), true
		floors[c.A]++
		return c, floors[c.A] == 1
	}
	return c, true
}

// deeds are random deeds to some of the things, in a random order.
func (d dice) deeds(r api.Rules) []api.Doing {
	var l []api.Doing
	for i := range r.Sets {
		l = append(l, api.Doing{Kind: api.EffAdd + d.Intn(2), Of: i})
	}
	for i := range r.Counts {
		l = append(l, api.Doing{Kind: api.EffUp + d.Intn(2), Of: i, N: d.number(1, 1000)})
	}
	for i := range r.Notes {
		l = append(l, api.Doing{Kind: api.EffSet, Of: i})
	}
	d.Shuffle(len(l), func(i, j int) { l[i], l[j] = l[j], l[i] })
	return l[:1+d.Intn(len(l))]
}

// rules are random rules that may be.
func (d dice) rules() api.Rules {
	taken := map[string]int{}
	r := api.Rules{Sets: d.names(taken, d.Intn(7)), Counts: d.names(taken, d.Intn(5)), Notes: d.names(taken, d.Intn(4))}
	floors := map[int]int{}
	for range d.Intn(13) {
		if c, is := d.clause(r, floors); is {
			r.Clauses = append(r.Clauses, c)
		}
	}
	if len(r.Sets)+len(r.Counts)+len(r.Notes) == 0 {
		return r
	}
	for range d.Intn(17) {
		r.Opers = append(r.Opers, api.Oper{Name: d.name(taken), Does: d.deeds(r)})
	}
	return r
}

// longRules are full rules with names of sixteen signs, whose operations do some of what may be done.
func (d dice) longRules() api.Rules {
	r := widest(full(16))
	for i := range r.Opers {
		r.Opers[i].Does = d.deeds(r)
	}
	return r
}

// Sh1, Sh2: random rules have the text that the words say; it is read as they are, and their lines are its lines.
func TestRandomRules(t *testing.T) {
	d := dice{rand.New(rand.NewSource(17))}
	told := map[api.Errno]int{}
	for range 5000 {
		r := d.rules()
		if d.Intn(20) == 0 {
			r = d.longRules()
		}
		if e := sorts.Check(r); e != api.OK {
			t.Fatalf("made rules that may not be: %s", short(r))
		}
		want := asText(r)
		if len(want) > api.MaxText {
			isNone(t, r, api.ErrBig)
			told[api.ErrBig]++
			continue
		}
		isText(t, r, want)
		if d.Intn(10) == 0 {
			areLines(t, r)
		}
		if _, _, e := lex.Read(want); e == api.OK {
			isRead(t, r)
			told[api.OK]++
		}
	}
	if told[api.OK] < 3000 || told[api.ErrBig] < 20 {
		t.Errorf("only %v", told)
	}
}

// Sh1: random rules of which something is turned have no text, if they may not be.
func TestSpoiltRules(t *testing.T) {
	d := dice{rand.New(rand.NewSource(71))}
	none := 0
	for range 5000 {
		r := full(2)
		d.spoil(&r)
		if sorts.Check(r) == api.OK {
			isText(t, r, asText(r))
			isRead(t, r)
			continue
		}
		none++
		isNone(t, r, api.ErrArg)
	}
	if none < 1000 || none > 4000 {
		t.Errorf("only %d", none)
	}
}

// spoil turns something of full rules.
func (d dice) spoil(r *api.Rules) {
	n := d.Intn(2500) - 1250
	if d.Intn(2) == 0 {
		n = d.Intn(9) - 1
	}
	c, o := &r.Clauses[d.Intn(12)], &r.Opers[d.Intn(2)]
	does := &o.Does[d.Intn(13)]
	switch d.Intn(9) {
	case 0:
		c.Kind = n
	case 1:
		c.Strict = !c.Strict
	case 2:
		c.A = n
	case 3:
		c.B = n
	case 4:
		c.N = n
	case 5:
		does.Kind = n
	case 6:
		does.Of = n
	case 7:
		does.N = n
	case 8:
		o.Name = []string{"o1", "new", "", "op", r.Sets[3], strings.Repeat("z", 16)}[d.Intn(6)]
	}
}

// readings are texts that are rules, written otherwise than Text writes them.
func readings() map[string]string {
	return map[string]string{
		"op x: add a,drop b\nset a\nset b\nrule strict ref a b": "set a\nset b\nrule strict ref a b\nop x: add a, drop b\n",
		"  \tset   a # a set\n\n\ncount\tc#\nnote n":            "set a\ncount c\nnote n\n",
		"note n\ncount c\nset a":                                "set a\ncount c\nnote n\n",
		"count c\nrule strict least c -5":                       "count c\nrule least c -5\n",
		"count c\nrule least c 0\nrule most c 0":                "count c\nrule least c 0\nrule most c 0\n",
		"op y : up c 1 , put n\nnote n\nop x:down c 1000\ncount c\nrule most c 3\nset b\nrule strict needs c b": "set b\ncount c\nnote n\nrule most c 3\nrule strict needs c b\nop y: up c 1, put n\nop x: down c 1000\n",
		"":            "",
		"# nothing\n": "",
	}
}

// Sh2: a text that is rules, however it is written, has rules whose text is read as the same ones.
func TestReadings(t *testing.T) {
	for s, want := range readings() {
		r, _, e := sorts.Read(s)
		if e != api.OK {
			t.Fatalf("%q: got %d", s, e)
		}
		isText(t, r, want)
		isRead(t, r)
	}
}
