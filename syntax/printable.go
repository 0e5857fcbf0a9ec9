package syntax

import (
	"slices"

	"sizar/api"
	"sizar/lex"
	"sizar/ratio"
)

// all reports whether every element of a list is printable.
func all[T any](l []T, ok func(T) bool) bool {
	return !slices.ContainsFunc(l, func(x T) bool { return !ok(x) })
}

func isCatalogue(c api.Catalogue) bool {
	return all(c.Courses, isCourse) && all(c.Same, isPair) && all(c.Programmes, isProgramme) &&
		all(c.Classes, isClass) && all(c.Fees, isFee) && all(c.Honours, isClass) && all(c.Clauses, isClause)
}

func isCourse(c api.Course) bool {
	return courseNumber.has(c.Number) && lex.Name(c.Name) && courseCredits.has(c.Credits) && repeats().has(c.Repeat) &&
		isRule(c.Need, 1) && isRule(c.Bar, 1)
}

func isPair(p api.Pair) bool {
	return isReference(p.A, p.X) && isReference(p.B, p.Y)
}

func isProgramme(p api.Programme) bool {
	return programmeNumber.has(p.Number) && lex.Name(p.Name) && uses.has(p.Uses) && earned.has(p.Earn) && isMean(p.Mean) &&
		len(p.Requirements) <= api.MaxRequirements && all(p.Requirements, isRequirement)
}

func isRequirement(r api.Requirement) bool {
	if !lex.Name(r.Name) || !takenCredits.has(r.Credits) || !grade.has(r.Grade) || len(r.Names) == 0 || len(r.Names) != len(r.From) {
		return false
	}
	for i, name := range r.Names {
		if !isReference(name, r.From[i]) {
			return false
		}
	}
	return true
}

func isClass(c api.Class) bool {
	return lex.Name(c.Name) && earned.has(c.Earn) && isMean(c.Mean)
}

func isFee(f api.Fee) bool {
	return lex.Name(f.Name) && earned.has(f.Credits)
}

func isClause(c api.Clause) bool {
	return kinds().has(c.Kind) && directions().has(c.When) && actions().has(c.Action) && until.has(c.Until)
}

func isReference(name string, number int) bool {
	return courseNumber.has(number) && (name == "" || lex.Name(name))
}

func isMean(r api.Ratio) bool {
	return ratio.Check(r) == api.OK && denominator.has(r.Den) && r.Num >= 0 && r.Num <= api.MaxGrade*r.Den
}

// isRule reports whether a rule at a level (1: in no other one) is printable.
func isRule(r api.Rule, level int) bool {
	if r.Op < api.AllR || r.Op > api.WithR || level > api.MaxDepth {
		return false
	}
	s := shapes[r.Op]
	return isCourseOf(s, r) && isNumberOf(s, r) && isCountOf(s, len(r.Kids)) &&
		all(r.Kids, func(kid api.Rule) bool { return isRule(kid, level+1) })
}

func isCourseOf(s shape, r api.Rule) bool {
	if s.course {
		return isReference(r.Name, r.Course)
	}
	return r.Name == "" && r.Course == 0
}

func isNumberOf(s shape, r api.Rule) bool {
	if s.ratio {
		return isMean(api.Ratio{Num: r.N, Den: r.D})
	}
	return s.number.has(r.N) && r.D == 0
}

func isCountOf(s shape, kids int) bool {
	switch {
	case s.many:
		return kids <= api.MaxKids
	case s.one:
		return kids == 1
	}
	return kids == 0
}
