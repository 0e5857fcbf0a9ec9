package syntax

import "sizar/api"

// quantity is what a number in a source says.
type quantity int

const (
	nothing quantity = iota
	courseNumber
	programmeNumber
	courseCredits
	uses
	earned // credits, also those of a standing, an honour and a fee class
	takenCredits
	grade
	tries
	least
	until
	numerator
	denominator
)

// ranges is indexed by the quantity.
var ranges = [...]struct{ first, last int }{
	nothing:         {0, 0},
	courseNumber:    {0, api.MaxCourses - 1},
	programmeNumber: {0, api.MaxProgrammes - 1},
	courseCredits:   {1, api.MaxCredits},
	uses:            {1, api.MaxUses},
	earned:          {0, api.MaxEarn},
	takenCredits:    {1, api.MaxEarn},
	grade:           {0, api.MaxGrade},
	tries:           {1, 100},
	least:           {0, api.MaxKids},
	until:           {0, api.OpenTerms},
	numerator:       {0, 1000 * api.MaxGrade},
	denominator:     {1, 1000},
}

func (q quantity) has(n int) bool {
	return ranges[q].first <= n && n <= ranges[q].last
}

// shape says what stands in a rule, in this order.
type shape struct {
	word   string
	course bool
	number quantity // which N is, unless the rule has a ratio
	ratio  bool
	one    bool // a rule
	many   bool // rules between braces
}

// shapes is indexed by the operation.
var shapes = [...]shape{
	api.AllR:   {word: "all", many: true},
	api.AnyR:   {word: "any", many: true},
	api.LeastR: {word: "least", number: least, many: true},
	api.NotR:   {word: "not", one: true},
	api.PassR:  {word: "pass", course: true, number: grade},
	api.TriesR: {word: "tries", course: true, number: tries},
	api.EarnR:  {word: "earn", number: earned},
	api.MeanR:  {word: "mean", ratio: true},
	api.WithR:  {word: "with", course: true},
}

// operation returns 0, whose word is empty as the text of a number is, if no rule begins with the text.
func operation(text string) int {
	for op, s := range shapes {
		if s.word == text {
			return op
		}
	}
	return 0
}

// words are indexed by the values that they stand for; an empty word stands for none.
type words []string

func repeats() words {
	return words{api.BestA: "best", api.LastA: "last", api.EachA: "each"}
}

func kinds() words {
	return words{api.AdmitD: "admit", api.ClassD: "class", api.FeeD: "fee", api.HonourD: "honour", api.DegreeD: "degree"}
}

func directions() words {
	return words{api.AnyC: "any", api.UpC: "up", api.DownC: "down"}
}

func actions() words {
	return words{api.KeepC: "keep", api.ReopenC: "reopen", api.ReverseC: "reverse"}
}

func (w words) has(n int) bool {
	return n >= 0 && n < len(w) && w[n] != ""
}
