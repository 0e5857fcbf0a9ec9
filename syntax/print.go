package syntax

import (
	"sizar/api"
	"sizar/lex"
)

// reference is a course as a source names it.
type reference struct {
	name   string
	number int
}

// printer collects the tokens of what is printable.
type printer struct{ tokens []api.Token }

func (p *printer) add(parts ...any) {
	for _, part := range parts {
		switch x := part.(type) {
		case string:
			p.text(x)
		case int:
			p.tokens = append(p.tokens, api.Token{Kind: api.NumberT, N: x})
		case api.Ratio:
			p.add(x.Num, "/", x.Den)
		case reference:
			p.reference(x)
		case api.Rule:
			p.rule(x)
		}
	}
}

func (p *printer) addIf(ok bool, parts ...any) {
	if ok {
		p.add(parts...)
	}
}

func (p *printer) text(s string) {
	kind := api.SignT
	if lex.Name(s) {
		kind = api.NameT
	}
	p.tokens = append(p.tokens, api.Token{Kind: kind, Text: s})
}

func (p *printer) reference(r reference) {
	if r.name == "" {
		p.add("#", r.number)
	} else {
		p.add(r.name)
	}
}

func (p *printer) rule(r api.Rule) {
	s := shapes[r.Op]
	p.add(s.word)
	p.addIf(s.course, reference{r.Name, r.Course})
	p.addIf(s.number != nothing, r.N)
	p.addIf(s.ratio, api.Ratio{Num: r.N, Den: r.D})
	p.addIf(s.many, "{")
	for _, kid := range r.Kids {
		p.add(kid)
		p.addIf(s.many, ";")
	}
	p.addIf(s.many, "}")
}

func (p *printer) catalogue(c api.Catalogue) {
	for _, x := range c.Courses {
		p.course(x)
	}
	for _, x := range c.Same {
		p.add("same", reference{x.A, x.X}, "=", reference{x.B, x.Y}, ";")
	}
	for _, x := range c.Programmes {
		p.programme(x)
	}
	for _, x := range c.Classes {
		p.add("class", x.Name, x.Earn, "mean", x.Mean, ";")
	}
	for _, x := range c.Fees {
		p.add("fee", x.Name, x.Credits, ";")
	}
	for _, x := range c.Honours {
		p.add("honour", x.Name, x.Earn, "mean", x.Mean, ";")
	}
	for _, x := range c.Clauses {
		p.add("when", kinds()[x.Kind], directions()[x.When], actions()[x.Action], "until", x.Until, ";")
	}
}

func (p *printer) course(c api.Course) {
	p.add("course", c.Number, c.Name, c.Credits)
	p.addIf(c.Repeat != api.BestA, repeats()[c.Repeat])
	p.add("{")
	p.addIf(c.Need.Op != api.AllR || len(c.Need.Kids) > 0, "need", c.Need, ";")
	p.addIf(c.Bar.Op != api.AnyR || len(c.Bar.Kids) > 0, "bar", c.Bar, ";")
	p.add("}")
}

func (p *printer) programme(x api.Programme) {
	p.add("programme", x.Number, x.Name, "{")
	p.addIf(x.Uses != 1, "uses", x.Uses, ";")
	p.addIf(x.Earn != 0, "earn", x.Earn, ";")
	p.addIf(x.Mean.Num != 0, "mean", x.Mean, ";")
	for _, r := range x.Requirements {
		p.requirement(r)
	}
	p.add("}")
}

func (p *printer) requirement(r api.Requirement) {
	p.add("take", r.Name, r.Credits, "from")
	for i, name := range r.Names {
		p.addIf(i > 0, ",")
		p.add(reference{name, r.From[i]})
	}
	p.addIf(r.Grade != 1, "at", r.Grade)
	p.addIf(r.Home, "home")
	p.add(";")
}
