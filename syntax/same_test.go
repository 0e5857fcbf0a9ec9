package syntax_test

import (
	"math/rand"
	"reflect"
	"strings"
	"testing"

	"sizar/api"
	"sizar/syntax"
)

func expectSame(t *testing.T, a, b api.Catalogue, want bool) {
	t.Helper()
	if syntax.Same(a, b) != want || syntax.Same(b, a) != want {
		t.Fatalf("not %v: %v, %v", want, a, b)
	}
}

// P10.3: the chapter's example.
func TestSameExample(t *testing.T) {
	a, _, _ := syntax.Parse("same A = B;")
	b, _, _ := syntax.Parse("same A = #1;")
	c := clone(a)
	c.Same[0].Y = 1
	expectSame(t, a, a, true)
	expectSame(t, a, b, false)
	expectSame(t, a, c, false)
	expectSame(t, b, c, false)
}

// P10.3: each field of a catalogue counts, also in rules within rules.
func TestSameEachField(t *testing.T) {
	c := oneOfEach()
	c.Courses[0].Need.Kids[5].Kids[0].Kids = []api.Rule{{}}
	expectSame(t, c, clone(c), true)
	count := 0
	for i := 0; ; i++ {
		x := clone(c)
		var l []reflect.Value
		leaves(reflect.ValueOf(&x).Elem(), &l)
		if i == len(l) {
			break
		}
		count++
		switch v := l[i]; v.Kind() {
		case reflect.Int:
			v.SetInt(v.Int() + 1)
		case reflect.String:
			v.SetString(v.String() + "x")
		case reflect.Bool:
			v.SetBool(!v.Bool())
		case reflect.Slice:
			v.Set(reflect.Append(v, reflect.Zero(v.Type().Elem())))
		}
		expectSame(t, c, x, false)
	}
	if count < 80 {
		t.Error(count)
	}
}

// P10.3: all lists of a catalogue count.
func TestSameLists(t *testing.T) {
	c := oneOfEach()
	for i := range reflect.TypeFor[api.Catalogue]().NumField() {
		x, y := clone(c), clone(c)
		reflect.ValueOf(&x).Elem().Field(i).SetZero()
		v := reflect.ValueOf(&y).Elem().Field(i)
		v.Set(reflect.Append(v, v.Index(0)))
		expectSame(t, c, x, false)
		expectSame(t, c, y, false)
		expectSame(t, x, y, false)
	}
}

// P10.3: nil and empty lists are equivalent.
func TestSameEmpty(t *testing.T) {
	a := api.Catalogue{Courses: []api.Course{{}}, Programmes: []api.Programme{{Requirements: []api.Requirement{{}}}}}
	b := api.Catalogue{
		Courses: []api.Course{{Need: api.Rule{Kids: []api.Rule{}}, Bar: api.Rule{Kids: []api.Rule{}}}}, Same: []api.Pair{},
		Programmes: []api.Programme{{Requirements: []api.Requirement{{Names: []string{}, From: []int{}}}}},
		Classes:    []api.Class{}, Fees: []api.Fee{}, Honours: []api.Class{}, Clauses: []api.Clause{},
	}
	expectSame(t, a, b, true)
	expectSame(t, api.Catalogue{Courses: []api.Course{}}, api.Catalogue{}, true)
}

// P10.3: all catalogues are accepted, also such that are not printable.
func TestSameOfAll(t *testing.T) {
	r := rand.New(rand.NewSource(5))
	for range 2000 {
		a := catalogue(r)
		b := changed(r, a)
		c := changed(r, b)
		expectSame(t, a, a, true)
		expectSame(t, b, clone(b), true)
		for _, x := range [][2]api.Catalogue{{a, b}, {b, c}, {a, c}, {c, catalogue(r)}} {
			expectSame(t, x[0], x[1], reflect.DeepEqual(clone(x[0]), clone(x[1])))
		}
	}
}

// P10.3: rules far deeper than what is printable.
func TestSameDeep(t *testing.T) {
	deep := func(n int) api.Catalogue {
		r := api.Rule{Op: n}
		for range 60000 {
			r = api.Rule{Op: api.NotR, Kids: []api.Rule{r}}
		}
		return api.Catalogue{Courses: []api.Course{{Bar: r}}}
	}
	expectSame(t, deep(1), deep(1), true)
	expectSame(t, deep(1), deep(2), false)
	expectPrinted(t, deep(1), "")
	expectRulePrinted(t, deep(1).Courses[0].Bar, "")
	if _, at, e := syntax.Rule(strings.Repeat("not ", 16000)); at != 60 || e != api.ErrLimit {
		t.Error(at, e)
	}
}
