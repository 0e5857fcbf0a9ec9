package syntax_test

import (
	"math/rand"
	"reflect"
	"slices"
	"strconv"
	"strings"

	"sizar/api"
)

// names are also the words of the grammar, since these are not reserved.
var names = append([]string{"A", "B", "x_1", "Z9", strings.Repeat("n", 32)}, wordsOfGrammar()...)

func wordsOfGrammar() (l []string) {
	for _, s := range wordForm.FindAllString(grammar, -1) {
		if s = strings.Trim(s, `"`); nameForm.MatchString(s) && !slices.Contains(l, s) {
			l = append(l, s)
		}
	}
	return l
}

// source returns the tokens of a source that is derived from a definition of the grammar by chance.
func source(r *rand.Rand, name string) []string {
	return chance(r, part{kind: name}, 0)
}

func chance(r *rand.Rand, p part, level int) (l []string) {
	switch p.kind {
	case " ":
		for _, x := range p.parts {
			l = append(l, chance(r, x, level)...)
		}
	case "|", "(":
		l = chance(r, p.parts[r.Intn(len(p.parts))], level)
	case "[":
		if r.Intn(2) == 0 {
			l = chance(r, p.parts[0], level)
		}
	case "{":
		for range r.Intn(4) {
			l = append(l, chance(r, p.parts[0], level)...)
		}
	case `"`:
		l = []string{p.text}
	case "NAME":
		l = []string{names[r.Intn(len(names))]}
	case "..":
		l = []string{strconv.Itoa(inRange(r, p))}
	case "ratio":
		d := inRange(r, part{first: 1, last: 1000})
		l = []string{strconv.Itoa(inRange(r, part{last: 12 * d})), "/", strconv.Itoa(d)}
	case "rule":
		l = chance(r, productions["rule"].parts[chooseRule(r, level)], level+1)
	default:
		l = chance(r, productions[p.kind], level)
	}
	return l
}

// chooseRule takes rules without others more often, the deeper they are.
func chooseRule(r *rand.Rand, level int) int {
	if r.Intn(6) < level || level >= 6 {
		return 4 + r.Intn(5)
	}
	return r.Intn(9)
}

// inRange returns the ends of the range more often than other numbers.
func inRange(r *rand.Rand, p part) int {
	switch r.Intn(6) {
	case 0:
		return p.first
	case 1:
		return p.last
	case 2:
		return min(p.first+1, p.last)
	}
	return p.first + r.Intn(p.last-p.first+1)
}

// spaced returns tokens with white space and comments between them.
func spaced(r *rand.Rand, l []string) string {
	spaces := []string{" ", "  ", "\n", "\t\r\n", " // a ; }\n", "\n//\n"}
	var b strings.Builder
	for _, s := range l {
		b.WriteString(s + spaces[r.Intn(len(spaces))])
	}
	return b.String()
}

// vocabulary are tokens of all kinds, with all numbers at the ends of ranges.
var vocabulary = append(strings.Fields("{ } ( ) ; , = # / < ! - . 0 1 2 3 4 5 12 13 60 61 100 101 200 201 255 256 1000 1001 4095 4096 10000 10001 12000 12001 1099511627776 A x_1"), wordsOfGrammar()...)

// spoilt returns tokens of which some are left out, put in, exchanged or repeated.
func spoilt(r *rand.Rand, l []string) []string {
	l = slices.Clone(l)
	for range 1 + r.Intn(2) {
		i, s := r.Intn(len(l)+1), vocabulary[r.Intn(len(vocabulary))]
		j := min(i+1+r.Intn(4), len(l))
		switch r.Intn(5) {
		case 0:
			l = slices.Delete(l, i, min(i+1, len(l)))
		case 1:
			l = slices.Insert(l, i, s)
		case 2:
			l = slices.Replace(l, i, min(i+1, len(l)), s)
		case 3:
			l = slices.Insert(l, j, slices.Clone(l[min(i, j):j])...)
		case 4:
			l = l[:i]
		}
	}
	return l
}

// changed returns a copy of x in which one field, or the length of a list, is another one, if the field was not so before.
func changed[T any](r *rand.Rand, x T) T {
	x = clone(x)
	var l []reflect.Value
	leaves(reflect.ValueOf(&x).Elem(), &l)
	v := l[r.Intn(len(l))]
	switch v.Kind() {
	case reflect.Int:
		near := []int64{v.Int() - 1, v.Int() + 1, -v.Int(), 2 * v.Int(), 0, -1, 1, 2, 4095, 4096, 1 << 62, -1 << 63}
		v.SetInt(near[r.Intn(len(near))])
	case reflect.String:
		near := []string{"", "A", "_", "a b", "é", "1", "#", "A ;", v.String() + "x", strings.Repeat("n", 33), "A // ", "\x00"}
		v.SetString(near[r.Intn(len(near))])
	case reflect.Bool:
		v.SetBool(!v.Bool())
	case reflect.Slice:
		changeList(r, v)
	}
	return x
}

func changeList(r *rand.Rand, v reflect.Value) {
	i := r.Intn(v.Len() + 1)
	switch {
	case r.Intn(2) == 0 || i == v.Len():
		x := reflect.Zero(v.Type().Elem())
		if v.Len() > 0 && r.Intn(2) == 0 {
			x = cloneOf(v.Index(r.Intn(v.Len())))
		}
		v.Set(reflect.Append(v, x))
	default:
		v.Set(reflect.AppendSlice(v.Slice(0, i), v.Slice(i+1, v.Len())))
	}
}

// leaves collects all fields that are no structures, and all lists.
func leaves(v reflect.Value, l *[]reflect.Value) {
	switch v.Kind() {
	case reflect.Struct:
		for i := range v.NumField() {
			leaves(v.Field(i), l)
		}
	case reflect.Slice:
		*l = append(*l, v)
		for i := range v.Len() {
			leaves(v.Index(i), l)
		}
	default:
		*l = append(*l, v)
	}
}

// catalogue returns a catalogue that is printable, in which some references have a name and a number.
func catalogue(r *rand.Rand) api.Catalogue {
	c, _, _ := wantedCatalogue(strings.Join(source(r, "catalogue"), " "))
	references(&c, func(name string, number *int) {
		if name != "" && r.Intn(2) == 0 {
			*number = r.Intn(4096)
		}
	})
	return c
}
