package names_test

import (
	"math/rand"

	"sizar/api"
)

func pick[T any](r *rand.Rand, l ...T) T { return l[r.Intn(len(l))] }

// maker makes catalogues by chance.
type maker struct {
	*rand.Rand
	wild    bool // names and numbers may be there twice, and references may mean nothing
	courses []api.Course
	place   int // of the course whose rules are made; others need only courses before it, mostly
	back    int // one of so many references goes to any course
}

func (m *maker) name() string {
	return pick(m.Rand, "", "A", "B", "C", "D", "a", "\xff", "all")
}

func (m *maker) number() int {
	return pick(m.Rand, 0, 1, 2, 3, 4095, 4096, -1, -1<<63, 1<<63-1)
}

// reference returns a name and a number, of which a reference by name has any one.
func (m *maker) reference(before int) (string, int) {
	if m.wild && m.Intn(3) == 0 || before == 0 {
		return pick(m.Rand, m.name(), ""), 700 + m.number()%5
	}
	x := m.courses[m.Intn(before)]
	if m.Intn(m.back) == 0 {
		x = pick(m.Rand, m.courses...)
	}
	if m.Intn(2) == 0 {
		return "", x.Number
	}
	return x.Name, m.number()
}

// rule may have others in it whatever its operation is, and fields that are not used.
func (m *maker) rule(level, before int) api.Rule {
	r := api.Rule{Op: m.Intn(10), N: m.Intn(3), D: m.Intn(3)}
	switch r.Op {
	case api.PassR, api.TriesR:
		r.Name, r.Course = m.reference(before)
	case api.WithR:
		r.Name, r.Course = m.reference(len(m.courses))
	case 0:
		r.Op, r.Name, r.Course = pick(m.Rand, -1, 0, 10, 1<<62, api.AllR, api.MeanR, api.EarnR), "nobody", m.number()
	}
	for range m.Intn(5 - level) {
		r.Kids = append(r.Kids, m.rule(level+1, before))
	}
	return r
}

func (m *maker) makeCourses() {
	for i := range m.Intn(8) {
		x := api.Course{Name: string(rune('F' + i)), Number: 40 - 3*i, Credits: i, Repeat: m.Intn(3)}
		if m.wild && m.Intn(3) == 0 {
			x.Name, x.Number = m.name(), m.number()
		}
		m.courses = append(m.courses, x)
	}
	n := len(m.courses)
	for i := range m.courses {
		x := &m.courses[i]
		x.Need = m.rule(1, i)
		for range m.Intn(2) {
			x.Need.Kids = append(x.Need.Kids, m.rule(2, i))
		}
		x.Bar = m.rule(1, n)
	}
	m.Shuffle(n, func(i, k int) { m.courses[i], m.courses[k] = m.courses[k], m.courses[i] })
}

func (m *maker) programmes() (l []api.Programme) {
	for i := range m.Intn(3) {
		p := api.Programme{Name: string(rune('F' + i)), Number: 2 - i, Uses: i, Mean: api.Ratio{Num: i, Den: 3}}
		if m.wild && m.Intn(4) == 0 {
			p.Name, p.Number = m.name(), m.number()
		}
		for k := range m.Intn(4) {
			x := api.Requirement{Name: string(rune('F' + k)), Credits: k, Grade: i, Home: m.Intn(2) == 0}
			if m.wild && m.Intn(6) == 0 {
				x.Name = m.name()
			}
			for range m.Intn(4) {
				name, number := m.reference(len(m.courses))
				x.Names, x.From = append(x.Names, name), append(x.From, number)
			}
			if m.wild && m.Intn(20) == 0 {
				x.Names = append(x.Names, m.name())
			}
			p.Requirements = append(p.Requirements, x)
		}
		l = append(l, p)
	}
	return l
}

func (m *maker) classes() (l []api.Class) {
	for i := range m.Intn(3) {
		l = append(l, api.Class{Name: string(rune('F' + i)), Earn: m.number()})
	}
	if m.wild && m.Intn(8) == 0 {
		l = append(l, api.Class{Name: "F"})
	}
	return l
}

// catalogue returns the same catalogue for the same seed, in new memory. Of even seeds, it is wild.
func catalogue(seed int64) (c api.Catalogue) {
	m := maker{Rand: rand.New(rand.NewSource(seed)), wild: seed%2 == 0}
	m.back = pick(m.Rand, 4, 40, 4000)
	m.makeCourses()
	c.Courses = m.courses
	for range m.Intn(4) {
		var x api.Pair
		x.A, x.X = m.reference(len(m.courses))
		x.B, x.Y = m.reference(len(m.courses))
		c.Same = append(c.Same, x)
	}
	c.Programmes, c.Classes, c.Honours = m.programmes(), m.classes(), m.classes()
	for _, x := range m.classes() {
		c.Fees = append(c.Fees, api.Fee{Name: x.Name, Credits: x.Earn})
	}
	for range m.Intn(3) {
		c.Clauses = append(c.Clauses, api.Clause{Kind: m.Intn(7), When: m.Intn(3), Action: m.Intn(5), Until: m.number()})
	}
	return c
}
