package syntax

import "sizar/api"

// definitions reads all definitions, each by a method that begins after its first word.
func (p *parser) definitions() {
	methods := map[string]func(*parser){
		"course":    (*parser).courseDefinition,
		"same":      (*parser).same,
		"programme": (*parser).programme,
		"class":     (*parser).class,
		"fee":       (*parser).fee,
		"honour":    (*parser).honour,
		"when":      (*parser).clause,
	}
	for len(p.tokens) > 0 {
		method, ok := methods[p.peek().Text]
		p.require(ok)
		p.skip()
		method(p)
	}
}

func (p *parser) courseDefinition() {
	c := api.Course{Need: api.Rule{Op: api.AllR}, Bar: api.Rule{Op: api.AnyR}}
	c.Number = p.number(courseNumber)
	c.Name = p.name()
	c.Credits = p.number(courseCredits)
	if p.peek().Text != "{" {
		c.Repeat = p.choice(repeats())
	}
	p.expect("{")
	if p.accept("need") {
		c.Need = p.rule(1, 0)
		p.expect(";")
	}
	if p.accept("bar") {
		c.Bar = p.rule(1, 0)
		p.expect(";")
	}
	p.expect("}")
	p.catalogue.Courses = append(p.catalogue.Courses, c)
}

func (p *parser) same() {
	var s api.Pair
	s.A, s.X = p.course()
	p.expect("=")
	s.B, s.Y = p.course()
	p.expect(";")
	p.catalogue.Same = append(p.catalogue.Same, s)
}

func (p *parser) programme() {
	x := api.Programme{Uses: 1, Mean: api.Ratio{Den: 1}}
	x.Number = p.number(programmeNumber)
	x.Name = p.name()
	p.expect("{")
	if p.accept("uses") {
		x.Uses = p.number(uses)
		p.expect(";")
	}
	if p.accept("earn") {
		x.Earn = p.number(earned)
		p.expect(";")
	}
	if p.accept("mean") {
		x.Mean = p.ratio()
		p.expect(";")
	}
	for p.peek().Text == "take" {
		if len(x.Requirements) == api.MaxRequirements {
			p.stop(api.ErrLimit)
		}
		x.Requirements = append(x.Requirements, p.requirement())
	}
	p.expect("}")
	p.catalogue.Programmes = append(p.catalogue.Programmes, x)
}

func (p *parser) requirement() api.Requirement {
	r := api.Requirement{Grade: 1}
	p.expect("take")
	r.Name = p.name()
	r.Credits = p.number(takenCredits)
	p.expect("from")
	for more := true; more; more = p.accept(",") {
		name, number := p.course()
		r.Names, r.From = append(r.Names, name), append(r.From, number)
	}
	if p.accept("at") {
		r.Grade = p.number(grade)
	}
	r.Home = p.accept("home")
	p.expect(";")
	return r
}

// classOrHonour reads what follows either word.
func (p *parser) classOrHonour() (c api.Class) {
	c.Name = p.name()
	c.Earn = p.number(earned)
	p.expect("mean")
	c.Mean = p.ratio()
	p.expect(";")
	return c
}

func (p *parser) class() {
	p.catalogue.Classes = append(p.catalogue.Classes, p.classOrHonour())
}

func (p *parser) honour() {
	p.catalogue.Honours = append(p.catalogue.Honours, p.classOrHonour())
}

func (p *parser) fee() {
	var f api.Fee
	f.Name = p.name()
	f.Credits = p.number(earned)
	p.expect(";")
	p.catalogue.Fees = append(p.catalogue.Fees, f)
}

func (p *parser) clause() {
	var c api.Clause
	c.Kind = p.choice(kinds())
	c.When = p.choice(directions())
	c.Action = p.choice(actions())
	p.expect("until")
	c.Until = p.number(until)
	p.expect(";")
	p.catalogue.Clauses = append(p.catalogue.Clauses, c)
}
