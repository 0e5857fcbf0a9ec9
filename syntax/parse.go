package syntax

import (
	"slices"

	"sizar/api"
	"sizar/lex"
	"sizar/ratio"
)

// stop is why reading ends, and where.
type stop struct {
	at int
	e  api.Errno
}

// parser reads tokens. Its methods panic with a stop at the first token with which they cannot go on; read recovers that.
type parser struct {
	tokens    []api.Token // those that are not yet read
	end       int         // of the source
	catalogue api.Catalogue
}

// read goes over a source with a method of the parser.
func read(src string, with func(*parser)) (at int, e api.Errno) {
	tokens, at, e := lex.Lex(src)
	if e != api.OK {
		return at, e
	}
	defer func() {
		if s, ok := recover().(stop); ok {
			at, e = s.at, s.e
		}
	}()
	with(&parser{tokens: tokens, end: len(src)})
	return 0, api.OK
}

// stop ends reading at the next token.
func (p *parser) stop(e api.Errno) {
	if len(p.tokens) == 0 {
		panic(stop{p.end, e})
	}
	panic(stop{p.tokens[0].At, e})
}

func (p *parser) require(ok bool) {
	if !ok {
		p.stop(api.ErrSyntax)
	}
}

// peek returns the next token, or after the last one a token of no kind.
func (p *parser) peek() (t api.Token) {
	if len(p.tokens) > 0 {
		t = p.tokens[0]
	}
	return t
}

func (p *parser) skip() {
	p.tokens = p.tokens[1:]
}

// accept reads a word or a sign, if it is the next token.
func (p *parser) accept(text string) bool {
	ok := p.peek().Text == text
	if ok {
		p.skip()
	}
	return ok
}

func (p *parser) expect(text string) {
	p.require(p.accept(text))
}

func (p *parser) name() string {
	t := p.peek()
	p.require(t.Kind == api.NameT)
	p.skip()
	return t.Text
}

func (p *parser) number(q quantity) int {
	t := p.peek()
	p.require(t.Kind == api.NumberT && q.has(t.N))
	p.skip()
	return t.N
}

func (p *parser) choice(w words) int {
	n := slices.Index(w, p.peek().Text)
	p.require(w.has(n))
	p.skip()
	return n
}

func (p *parser) course() (name string, number int) {
	if p.accept("#") {
		return "", p.number(courseNumber)
	}
	return p.name(), 0
}

func (p *parser) ratio() api.Ratio {
	num := p.number(numerator)
	p.expect("/")
	p.require(num <= api.MaxGrade*p.peek().N)
	r, _ := ratio.New(num, p.number(denominator))
	return r
}

// rule reads a rule at a level (1: in no other one), with as many rules before it in the same one.
func (p *parser) rule(level, before int) api.Rule {
	r := api.Rule{Op: operation(p.peek().Text)}
	s := shapes[r.Op]
	p.require(r.Op != 0)
	if before == api.MaxKids || level > api.MaxDepth || s.one && level == api.MaxDepth {
		p.stop(api.ErrLimit)
	}
	p.skip()
	if s.course {
		r.Name, r.Course = p.course()
	}
	if s.number != nothing {
		r.N = p.number(s.number)
	}
	if s.ratio {
		x := p.ratio()
		r.N, r.D = x.Num, x.Den
	}
	if s.one {
		r.Kids = []api.Rule{p.rule(level+1, 0)}
	}
	if s.many {
		r.Kids = p.rules(level + 1)
	}
	return r
}

func (p *parser) rules(level int) (l []api.Rule) {
	p.expect("{")
	for !p.accept("}") {
		l = append(l, p.rule(level, len(l)))
		p.expect(";")
	}
	return l
}
