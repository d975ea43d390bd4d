package show

import (
	"strconv"
	"strings"

	"huckster/api"
)

// words are tokens of a line, each with a blank ahead of the next one.
func words(l ...string) string { return strings.Join(l, " ") }

// clause is the line of a clause of rules that may be.
func clause(r api.Rules, c api.Clause) string {
	// A DeclLeast can't be but strict, so its line doesn't say it.
	if c.Strict && c.Kind != api.DeclLeast {
		return words("rule", "strict", must(r, c))
	}
	return words("rule", must(r, c))
}

// must is what must hold by a clause.
func must(r api.Rules, c api.Clause) string {
	switch c.Kind {
	case api.DeclRef:
		return words("ref", r.Sets[c.A], r.Sets[c.B])
	case api.DeclBoth:
		return words("both", r.Sets[c.A], r.Sets[c.B])
	case api.DeclNeeds:
		return words("needs", r.Counts[c.A], r.Sets[c.B])
	case api.DeclLimit:
		return words("limit", r.Sets[c.A], strconv.Itoa(c.N))
	case api.DeclMost:
		return words("most", r.Counts[c.A], strconv.Itoa(c.N))
	case api.DeclLeast:
		return words("least", r.Counts[c.A], strconv.Itoa(c.N))
	}
	return ""
}

// oper is the line of an operation of rules that may be.
func oper(r api.Rules, o api.Oper) string {
	var l []string
	for _, d := range o.Does {
		l = append(l, deed(r, d))
	}
	return words("op", o.Name+":", strings.Join(l, ", "))
}

// deed is what a line says of something that its operation does.
func deed(r api.Rules, d api.Doing) string {
	switch d.Kind {
	case api.EffAdd:
		return words("add", r.Sets[d.Of])
	case api.EffDrop:
		return words("drop", r.Sets[d.Of])
	case api.EffUp:
		return words("up", r.Counts[d.Of], strconv.Itoa(d.N))
	case api.EffDown:
		return words("down", r.Counts[d.Of], strconv.Itoa(d.N))
	case api.EffSet:
		return words("put", r.Notes[d.Of])
	}
	return ""
}

// text is the text of rules that may be, however long.
func text(r api.Rules) string {
	var b strings.Builder
	end := func(line string) {
		b.WriteString(line)
		b.WriteByte('\n')
	}
	for _, name := range r.Sets {
		end(words("set", name))
	}
	for _, name := range r.Counts {
		end(words("count", name))
	}
	for _, name := range r.Notes {
		end(words("note", name))
	}
	for _, c := range r.Clauses {
		end(clause(r, c))
	}
	for _, o := range r.Opers {
		end(oper(r, o))
	}
	return b.String()
}
