package names_test

import (
	"testing"

	"sizar/api"
)

// P11.2: the chapter's example.
func TestFindExample(t *testing.T) {
	expectFound(t, api.Catalogue{}, "A", 0, false)
	expectFound(t, api.Catalogue{}, "", 0, false)
}

// P11.2: the first course with exactly this name, not a definition of another kind.
func TestFind(t *testing.T) {
	c := parsed(t, "course 17 MATH1 4 { need pass PRE 5; } course 18 A 4 { } course 19 A 4 { } course 0 B 4 { } programme 5 P { take r 1 from Z; } class k 0 mean 0/1; fee f 0; honour h 0 mean 0/1;")
	expectFound(t, c, "MATH1", 17, true)
	expectFound(t, c, "A", 18, true)
	expectFound(t, c, "B", 0, true)
	for _, name := range []string{"", "math1", "MATH", "MATH12", "MATH1 ", "PRE", "P", "r", "Z", "k", "f", "h", "#17", "17", "a", "\x00"} {
		expectFound(t, c, name, 0, false)
	}
}

// P11.2: names and numbers that no source has.
func TestFindAnyName(t *testing.T) {
	c := api.Catalogue{Courses: []api.Course{{Name: "\xff", Number: -7}, {Number: 1<<63 - 1}, {Number: 5}, {Name: "\xff", Number: 6}, {Name: "é", Number: -1 << 63}}}
	expectFound(t, c, "\xff", -7, true)
	expectFound(t, c, "", 1<<63-1, true)
	expectFound(t, c, "é", -1<<63, true)
	expectFound(t, c, "\xfe", 0, false)
	expectFound(t, c, "\uFFFD", 0, false)
}

// P11.2: catalogues of all kinds.
func TestFindOfAll(t *testing.T) {
	for seed := range int64(2000) {
		c := catalogue(seed)
		for _, name := range []string{"", "A", "B", "C", "D", "a", "\xff", "all", "F", "G", "M"} {
			want, found := 0, false
			for i := len(c.Courses) - 1; i >= 0; i-- {
				if c.Courses[i].Name == name {
					want, found = c.Courses[i].Number, true
				}
			}
			expectFound(t, c, name, want, found)
		}
	}
}
