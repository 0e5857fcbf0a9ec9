package syntax_test

import (
	"fmt"
	"math/big"
	"reflect"
	"regexp"
	"slices"
	"strconv"
	"strings"

	"sizar/api"
	"sizar/lex"
)

// What follows is the chapter's definitions, without package syntax.

const (
	mostBytes = 65536
	mostKids  = 200
	mostDepth = 16
	mostTakes = 64
)

// grammar is the chapter's, with the range of each NUMBER in its place.
const grammar = `
catalogue = { course | same | programme | class | fee | honour | clause } .
course    = "course" 0..4095 NAME 1..60 [ "best" | "last" | "each" ]
            "{" [ "need" rule ";" ] [ "bar" rule ";" ] "}" .
same      = "same" ref "=" ref ";" .
programme = "programme" 0..255 NAME
            "{" [ "uses" 1..4 ";" ] [ "earn" 0..10000 ";" ] [ "mean" ratio ";" ] { take } "}" .
take      = "take" NAME 1..10000 "from" ref { "," ref } [ "at" 0..12 ] [ "home" ] ";" .
class     = "class" NAME 0..10000 "mean" ratio ";" .
honour    = "honour" NAME 0..10000 "mean" ratio ";" .
fee       = "fee" NAME 0..10000 ";" .
clause    = "when" ( "admit" | "class" | "fee" | "honour" | "degree" ) ( "any" | "up" | "down" )
            ( "keep" | "reopen" | "reverse" ) "until" 0..12 ";" .
rule      = "all" "{" { rule ";" } "}" | "any" "{" { rule ";" } "}" | "least" 0..200 "{" { rule ";" } "}"
          | "not" rule | "pass" ref 0..12 | "tries" ref 1..100 | "earn" 0..10000 | "mean" ratio | "with" ref .
ref       = NAME | "#" 0..4095 .
ratio     = 0..12000 "/" 1..1000 .
`

var (
	wordForm = regexp.MustCompile(`"[^"]+"|[0-9]+\.\.[0-9]+|[A-Za-z]+|[=.{}()|\[\]]`)
	nameForm = regexp.MustCompile(`^[A-Za-z][0-9A-Za-z_]{0,31}$`)
)

// part is a part of the grammar: a choice, a sequence, repeated, optional, or a word of it.
type part struct {
	kind        string // "|", " ", "{", "[", `"`, "..", "NAME" or the name of a definition
	parts       []part
	text        string
	first, last int
}

// productions are the parts of the grammar by their names.
var productions = readGrammar()

func readGrammar() map[string]part {
	l := wordForm.FindAllString(grammar, -1)
	m := map[string]part{}
	for len(l) > 0 {
		name := l[0]
		m[name], l = readChoice(l[2:])
		l = l[1:]
	}
	return m
}

func readChoice(l []string) (part, []string) {
	p := part{kind: "|"}
	for {
		var x part
		x, l = readSequence(l)
		p.parts = append(p.parts, x)
		if l[0] != "|" {
			return p, l
		}
		l = l[1:]
	}
}

func readSequence(l []string) (part, []string) {
	p := part{kind: " "}
	for !strings.Contains(".|)]}", l[0]) {
		x := part{kind: l[0]}
		switch {
		case strings.Contains("([{", l[0]):
			x.parts = make([]part, 1)
			x.parts[0], l = readChoice(l[1:])
		case l[0][0] == '"':
			x.kind, x.text = `"`, strings.Trim(l[0], `"`)
		case strings.Contains(l[0], ".."):
			x.kind = ".."
			fmt.Sscanf(l[0], "%d..%d", &x.first, &x.last)
		}
		p.parts, l = append(p.parts, x), l[1:]
	}
	return p, l
}

// node is a part of a source: a token, or what a definition of the grammar stands for.
type node struct {
	kind  string
	token api.Token
	kids  []node
}

// matcher looks for all ways to derive tokens. Steps are the tokens and the beginnings and ends of definitions on the present way.
type matcher struct {
	tokens []api.Token
	limits bool
	level  int // of rules
	far    int // how many tokens were derived on some way
	steps  []node
}

// match goes on with then, wherever the part may end.
func (m *matcher) match(p part, at int, then func(int) bool) bool {
	switch p.kind {
	case "|", "(":
		return slices.ContainsFunc(p.parts, func(x part) bool { return m.match(x, at, then) })
	case " ":
		return m.sequence(p.parts, at, then)
	case "[":
		return m.match(p.parts[0], at, then) || then(at)
	case "{":
		return m.repeated(p.parts[0], 0, at, then)
	case `"`, "..", "NAME":
		return at < len(m.tokens) && m.fits(p, at) && m.step(node{token: m.tokens[at]}, func() bool {
			m.far = max(m.far, at+1)
			return then(at + 1)
		})
	}
	return m.production(p.kind, at, then)
}

func (m *matcher) sequence(l []part, at int, then func(int) bool) bool {
	if len(l) == 0 {
		return then(at)
	}
	return m.match(l[0], at, func(at int) bool { return m.sequence(l[1:], at, then) })
}

func (m *matcher) repeated(p part, before, at int, then func(int) bool) bool {
	most := mostBytes
	switch p.parts[0].parts[0].kind {
	case "rule":
		most = mostKids
	case "take":
		most = mostTakes
	}
	if !m.limits || before < most {
		again := func(at int) bool { return m.repeated(p, before+1, at, then) }
		if m.match(p, at, again) {
			return true
		}
	}
	return then(at)
}

func (m *matcher) production(name string, at int, then func(int) bool) bool {
	deeper := 0
	if name == "rule" {
		deeper = 1
	}
	m.level += deeper
	defer func() { m.level -= deeper }()
	if m.limits && m.level > mostDepth {
		return false
	}
	return m.step(node{kind: name}, func() bool {
		return m.match(productions[name], at, func(at int) bool {
			m.level -= deeper
			defer func() { m.level += deeper }()
			return m.step(node{kind: "end"}, func() bool { return then(at) })
		})
	})
}

// step leaves a step on the way if it leads to the end.
func (m *matcher) step(n node, then func() bool) bool {
	before := len(m.steps)
	m.steps = append(m.steps, n)
	ok := then()
	if !ok {
		m.steps = m.steps[:before]
	}
	return ok
}

// fits reports whether a token is that word of the grammar. No rule can follow the not of a rule that is the deepest one that may be.
func (m *matcher) fits(p part, at int) bool {
	t := m.tokens[at]
	switch p.kind {
	case `"`:
		return t.Kind != api.NumberT && t.Text == p.text && !(m.limits && p.text == "not" && m.level == mostDepth)
	case "NAME":
		return t.Kind == api.NameT && nameForm.MatchString(t.Text)
	}
	if p.first == 1 && p.last == 1000 && m.tokens[at-2].N > 12*t.N {
		return false
	}
	return t.Kind == api.NumberT && t.N >= p.first && t.N <= p.last
}

// derive returns what the tokens are derived as, or of how many of them no correct source begins with the last one.
func derive(name string, l []api.Token, limits bool) (n node, far int, ok bool) {
	m := matcher{tokens: l, limits: limits}
	ok = m.production(name, 0, func(at int) bool { return at == len(l) })
	if ok {
		n, _ = gather(m.steps)
	}
	return n, m.far, ok
}

// gather returns what the first step begins, and the steps after its end.
func gather(l []node) (node, []node) {
	n := l[0]
	l = l[1:]
	if n.kind == "" {
		return n, l
	}
	for l[0].kind != "end" {
		var kid node
		kid, l = gather(l)
		n.kids = append(n.kids, kid)
	}
	return n, l[1:]
}

// wanted returns what a source is derived as, or the place and the error that must be returned.
func wanted(name, src string) (n node, at int, e api.Errno) {
	l, at, e := lex.Lex(src)
	if e != api.OK {
		return node{}, at, e
	}
	n, far, ok := derive(name, l, true)
	if ok {
		return n, 0, api.OK
	}
	if far == len(l) {
		return node{}, len(src), api.ErrSyntax
	}
	begins := slices.Contains(strings.Fields("all any least not pass tries earn mean with take"), l[far].Text)
	if _, further, _ := derive(name, l, false); begins && further > far {
		return node{}, l[far].At, api.ErrLimit
	}
	return node{}, l[far].At, api.ErrSyntax
}

func wantedCatalogue(src string) (c api.Catalogue, at int, e api.Errno) {
	n, at, e := wanted("catalogue", src)
	if e == api.OK {
		c = n.catalogue()
	}
	return c, at, e
}

func wantedRule(src string) (r api.Rule, at int, e api.Errno) {
	n, at, e := wanted("rule", src)
	if e == api.OK {
		r = n.rule()
	}
	return r, at, e
}

// of returns the parts that a definition of the grammar stands for.
func (n node) of(kind string) (l []node) {
	for _, kid := range n.kids {
		if kid.kind == kind {
			l = append(l, kid)
		}
	}
	return l
}

// has looks for a word after the first four parts, among which are names.
func (n node) has(word string) bool {
	_, ok := n.after(word)
	return ok
}

// after returns what follows a word.
func (n node) after(word string) (node, bool) {
	for i := 3; i < len(n.kids); i++ {
		if n.kids[i].token.Text == word {
			return append(n.kids, node{})[i+1], true
		}
	}
	return node{}, false
}

// position returns where a token is among words.
func (n node) position(words string) int {
	return slices.Index(strings.Fields(words), n.token.Text)
}

func (n node) catalogue() (c api.Catalogue) {
	for _, x := range n.kids {
		switch x.kind {
		case "course":
			c.Courses = append(c.Courses, x.course())
		case "same":
			var p api.Pair
			l := x.of("ref")
			p.A, p.X = l[0].ref()
			p.B, p.Y = l[1].ref()
			c.Same = append(c.Same, p)
		case "programme":
			c.Programmes = append(c.Programmes, x.programme())
		case "class":
			c.Classes = append(c.Classes, x.class())
		case "honour":
			c.Honours = append(c.Honours, x.class())
		case "fee":
			c.Fees = append(c.Fees, api.Fee{Name: x.kids[1].token.Text, Credits: x.kids[2].token.N})
		case "clause":
			c.Clauses = append(c.Clauses, api.Clause{
				Kind:   x.kids[1].position("admit class fee honour degree") + 1,
				When:   x.kids[2].position("any up down"),
				Action: x.kids[3].position("keep reopen reverse") + 1,
				Until:  x.kids[5].token.N,
			})
		}
	}
	return c
}

func (n node) course() api.Course {
	c := api.Course{Number: n.kids[1].token.N, Name: n.kids[2].token.Text, Credits: n.kids[3].token.N}
	c.Repeat = max(0, n.kids[4].position("best last each"))
	c.Need, c.Bar = api.Rule{Op: 1}, api.Rule{Op: 2}
	if r, ok := n.after("need"); ok {
		c.Need = r.rule()
	}
	if r, ok := n.after("bar"); ok {
		c.Bar = r.rule()
	}
	return c
}

func (n node) rule() api.Rule {
	r := api.Rule{Op: n.kids[0].position("all any least not pass tries earn mean with") + 1}
	for _, kid := range n.kids[1:] {
		switch kid.kind {
		case "ref":
			r.Name, r.Course = kid.ref()
		case "ratio":
			x := kid.ratio()
			r.N, r.D = x.Num, x.Den
		case "rule":
			r.Kids = append(r.Kids, kid.rule())
		default:
			r.N += kid.token.N
		}
	}
	return r
}

func (n node) programme() api.Programme {
	p := api.Programme{Number: n.kids[1].token.N, Name: n.kids[2].token.Text, Uses: 1, Mean: api.Ratio{Num: 0, Den: 1}}
	if x, ok := n.after("uses"); ok {
		p.Uses = x.token.N
	}
	if x, ok := n.after("earn"); ok {
		p.Earn = x.token.N
	}
	if x, ok := n.after("mean"); ok {
		p.Mean = x.ratio()
	}
	for _, x := range n.of("take") {
		r := api.Requirement{Name: x.kids[1].token.Text, Credits: x.kids[2].token.N, Grade: 1, Home: x.has("home")}
		if y, ok := x.after("at"); ok {
			r.Grade = y.token.N
		}
		for _, y := range x.of("ref") {
			name, number := y.ref()
			r.Names, r.From = append(r.Names, name), append(r.From, number)
		}
		p.Requirements = append(p.Requirements, r)
	}
	return p
}

func (n node) class() api.Class {
	return api.Class{Name: n.kids[1].token.Text, Earn: n.kids[2].token.N, Mean: n.kids[4].ratio()}
}

func (n node) ref() (string, int) {
	last := n.kids[len(n.kids)-1].token
	return last.Text, last.N
}

func (n node) ratio() api.Ratio {
	x := big.NewRat(int64(n.kids[0].token.N), int64(n.kids[2].token.N))
	return api.Ratio{Num: int(x.Num().Int64()), Den: int(x.Denom().Int64())}
}

// printed returns the tokens of a catalogue, each after a space, whatever it contains.
func printed(c api.Catalogue) string {
	var b strings.Builder
	for _, x := range c.Courses {
		fmt.Fprintf(&b, " course %d %s %d%s {", x.Number, x.Name, x.Credits, []string{"", " last", " each", " ?"}[min(uint(x.Repeat), 3)])
		if need := printedRule(x.Need); need != " all { }" {
			b.WriteString(" need" + need + " ;")
		}
		if bar := printedRule(x.Bar); bar != " any { }" {
			b.WriteString(" bar" + bar + " ;")
		}
		b.WriteString(" }")
	}
	for _, x := range c.Same {
		fmt.Fprintf(&b, " same%s =%s ;", printedRef(x.A, x.X), printedRef(x.B, x.Y))
	}
	for _, x := range c.Programmes {
		b.WriteString(printedProgramme(x))
	}
	for _, x := range c.Classes {
		fmt.Fprintf(&b, " class %s %d mean %d / %d ;", x.Name, x.Earn, x.Mean.Num, x.Mean.Den)
	}
	for _, x := range c.Fees {
		fmt.Fprintf(&b, " fee %s %d ;", x.Name, x.Credits)
	}
	for _, x := range c.Honours {
		fmt.Fprintf(&b, " honour %s %d mean %d / %d ;", x.Name, x.Earn, x.Mean.Num, x.Mean.Den)
	}
	for _, x := range c.Clauses {
		kind := append(strings.Fields("? admit class fee honour degree"), "?")[min(uint(x.Kind), 6)]
		action := append(strings.Fields("? keep reopen reverse"), "?")[min(uint(x.Action), 4)]
		fmt.Fprintf(&b, " when %s %s %s until %d ;", kind, strings.Fields("any up down ?")[min(uint(x.When), 3)], action, x.Until)
	}
	return b.String()
}

func printedProgramme(p api.Programme) string {
	var b strings.Builder
	fmt.Fprintf(&b, " programme %d %s {", p.Number, p.Name)
	if p.Uses != 1 {
		fmt.Fprintf(&b, " uses %d ;", p.Uses)
	}
	if p.Earn != 0 {
		fmt.Fprintf(&b, " earn %d ;", p.Earn)
	}
	if p.Mean.Num != 0 || p.Mean.Den != 1 {
		fmt.Fprintf(&b, " mean %d / %d ;", p.Mean.Num, p.Mean.Den)
	}
	for _, r := range p.Requirements {
		fmt.Fprintf(&b, " take %s %d from", r.Name, r.Credits)
		for i := range min(len(r.Names), len(r.From)) {
			b.WriteString(strings.Repeat(" ,", min(i, 1)) + printedRef(r.Names[i], r.From[i]))
		}
		if r.Grade != 1 {
			fmt.Fprintf(&b, " at %d", r.Grade)
		}
		if r.Home {
			b.WriteString(" home")
		}
		b.WriteString(" ;")
	}
	return b.String() + " }"
}

func printedRef(name string, number int) string {
	if name == "" {
		return " # " + strconv.Itoa(number)
	}
	return " " + name
}

func printedRule(r api.Rule) string {
	kids, end := " {", " ;"
	if r.Op == 4 {
		kids, end = "", ""
	}
	if r.Op >= 1 && r.Op <= 4 {
		for _, kid := range r.Kids {
			kids += printedRule(kid) + end
		}
	}
	switch r.Op {
	case 1:
		return " all" + kids + " }"
	case 2:
		return " any" + kids + " }"
	case 3:
		return fmt.Sprintf(" least %d%s }", r.N, kids)
	case 4:
		return " not" + kids
	case 5:
		return fmt.Sprintf(" pass%s %d", printedRef(r.Name, r.Course), r.N)
	case 6:
		return fmt.Sprintf(" tries%s %d", printedRef(r.Name, r.Course), r.N)
	case 7:
		return fmt.Sprintf(" earn %d", r.N)
	case 8:
		return fmt.Sprintf(" mean %d / %d", r.N, r.D)
	case 9:
		return " with" + printedRef(r.Name, r.Course)
	}
	return " ?"
}

// references visits all references of a catalogue.
func references(c *api.Catalogue, visit func(name string, number *int)) {
	for i := range c.Courses {
		referencesOf(&c.Courses[i].Need, visit)
		referencesOf(&c.Courses[i].Bar, visit)
	}
	for i := range c.Same {
		visit(c.Same[i].A, &c.Same[i].X)
		visit(c.Same[i].B, &c.Same[i].Y)
	}
	for _, p := range c.Programmes {
		for _, r := range p.Requirements {
			for i := range min(len(r.Names), len(r.From)) {
				visit(r.Names[i], &r.From[i])
			}
		}
	}
}

func referencesOf(r *api.Rule, visit func(name string, number *int)) {
	if r.Op == 5 || r.Op == 6 || r.Op == 9 {
		visit(r.Name, &r.Course)
	}
	for i := range r.Kids {
		referencesOf(&r.Kids[i], visit)
	}
}

// readBack returns what the source of a catalogue is read as, in which references have a name or a number, and whether the catalogue is printable: if it is read as itself, and the numbers beside names are in range too.
func readBack(c api.Catalogue) (x api.Catalogue, ok bool) {
	x, ok = clone(c), true
	references(&x, func(name string, number *int) {
		ok = ok && *number >= 0 && *number <= 4095
		if name != "" {
			*number = 0
		}
	})
	y, _, e := wantedCatalogue(printed(c))
	return x, ok && e == api.OK && reflect.DeepEqual(x, y)
}

// clone returns a copy, in which nil stands for all empty slices, that shares no memory with x.
func clone[T any](x T) T {
	return cloneOf(reflect.ValueOf(x)).Interface().(T)
}

func cloneOf(v reflect.Value) reflect.Value {
	x := reflect.New(v.Type()).Elem()
	switch v.Kind() {
	case reflect.Slice:
		for i := range v.Len() {
			x.Set(reflect.Append(x, cloneOf(v.Index(i))))
		}
	case reflect.Struct:
		for i := range v.NumField() {
			x.Field(i).Set(cloneOf(v.Field(i)))
		}
	default:
		x.Set(v)
	}
	return x
}
