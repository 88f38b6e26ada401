package tests

import (
	"math"
	"slices"
	"strings"

	"loop.example/residuatedtables/impl"
)

// signs are the numbers of a term that have terms behind them, with their signs
// in texts; leaves are those that have none, with their letters.
var (
	signs  = map[int]string{impl.SyNot: "-", impl.SyMeet: "&", impl.SyJoin: "|", impl.SyTimes: "*", impl.SyImply: ">"}
	leaves = map[int]string{0: "x", 1: "y", 2: "z", impl.SyLeast: "0", impl.SyGreatest: "1"}
)

// needOf is how many terms a number of a term has behind it.
func needOf(number int) int {
	switch {
	case leaves[number] != "":
		return 0
	case number == impl.SyNot:
		return 1
	}
	return 2
}

// plainTerm follows the document's words for ValidTerm: it counts the terms that
// are still to come.
func plainTerm(t []int) bool {
	wanted := 1
	for _, number := range t {
		if leaves[number]+signs[number] == "" || wanted == 0 {
			return false
		}
		wanted += needOf(number) - 1
	}
	return wanted == 0 && len(t) <= 15
}

// fromEnd makes something of a term, from its last number to the first one: of
// each number and of what the terms behind it are made into.
func fromEnd[T any](t []int, make func(number int, behind []T) T) T {
	var made []T
	for _, number := range slices.Backward(t) {
		left := len(made) - needOf(number)
		behind := slices.Clone(made[left:])
		slices.Reverse(behind)
		made = append(made[:left], make(number, behind))
	}
	return made[0]
}

// plainValue follows the document's words for ValueOf, for the operations of an
// algebra.
func plainValue(ops [mapLaws][][]int, t, names []int) int {
	return fromEnd(t, func(number int, behind []int) int {
		switch number {
		case impl.SyLeast:
			return 0
		case impl.SyGreatest:
			return len(ops[keepsProducts]) - 1
		case impl.SyNot:
			return ops[keepsImplications][behind[0]][0]
		case impl.SyMeet:
			return ops[keepsMeets][behind[0]][behind[1]]
		case impl.SyJoin:
			return ops[keepsJoins][behind[0]][behind[1]]
		case impl.SyTimes:
			return ops[keepsProducts][behind[0]][behind[1]]
		case impl.SyImply:
			return ops[keepsImplications][behind[0]][behind[1]]
		}
		return names[number]
	})
}

// plainTermText follows the document's words for TermText.
func plainTermText(t []int) string {
	return fromEnd(t, func(number int, behind []string) string {
		switch len(behind) {
		case 1:
			return signs[number] + behind[0]
		case 2:
			return "(" + behind[0] + signs[number] + behind[1] + ")"
		}
		return leaves[number]
	})
}

// piece is a term that has been read, or a sign or a bracket that waits for one.
type piece struct {
	term []int
	mark string
}

// withTerm puts a term behind pieces. Each opposite that waits for it has it at
// once.
func withTerm(pieces []piece, term []int) []piece {
	for len(pieces) > 0 && pieces[len(pieces)-1].mark == "-" {
		pieces, term = pieces[:len(pieces)-1], ahead(impl.SyNot, term)
	}
	return append(pieces, piece{term: term})
}

// closed makes one term of the last four pieces, if these are a bracket and a
// sign between two terms.
func closed(pieces []piece) ([]piece, bool) {
	start := len(pieces) - 4
	if start < 0 {
		return nil, false
	}
	open, first, sign, second := pieces[start], pieces[start+1], pieces[start+2], pieces[start+3]
	number, known := numberAt(signs, sign.mark)
	if open.mark != "(" || first.term == nil || !known || second.term == nil {
		return nil, false
	}
	return withTerm(pieces[:start], ahead(number, first.term, second.term)), true
}

// numberAt is the number that has a letter.
func numberAt(letters map[int]string, letter string) (int, bool) {
	for number, other := range letters {
		if letter == other {
			return number, true
		}
	}
	return 0, false
}

// plainParseTerm follows the document's words for ParseTerm: it puts pieces one
// behind the other and makes one of those that are a term. Each number has one
// byte in a text, besides brackets.
func plainParseTerm(s string) ([]int, bool) {
	if len(s)-strings.Count(s, "(")-strings.Count(s, ")") > 15 {
		return nil, false
	}
	var pieces []piece
	for i := range len(s) {
		letter := s[i : i+1]
		number, isLeaf := numberAt(leaves, letter)
		_, isSign := numberAt(signs, letter)
		fine := true
		switch {
		case isLeaf:
			pieces = withTerm(pieces, []int{number})
		case isSign || letter == "(":
			pieces = append(pieces, piece{mark: letter})
		default:
			pieces, fine = closed(pieces)
			fine = fine && letter == ")"
		}
		if !fine {
			return nil, false
		}
	}
	if len(pieces) != 1 || !plainTerm(pieces[0].term) {
		return nil, false
	}
	return pieces[0].term, true
}

// term is the term of a text that is one.
func term(s string) []int {
	t, ok := plainParseTerm(s)
	if !ok {
		panic(s + " is no term")
	}
	return t
}

// ahead puts a number ahead of terms.
func ahead(number int, terms ...[]int) []int {
	return append([]int{number}, slices.Concat(terms...)...)
}

// termsOf are all terms of as many numbers.
func termsOf(count int) [][]int {
	if count == 1 {
		return [][]int{{0}, {1}, {2}, {impl.SyLeast}, {impl.SyGreatest}}
	}
	var all [][]int
	for _, t := range termsOf(count - 1) {
		all = append(all, ahead(impl.SyNot, t))
	}
	for first := 1; first < count-1; first++ {
		for _, t := range termsOf(first) {
			for _, u := range termsOf(count - 1 - first) {
				for sign := impl.SyMeet; sign <= impl.SyImply; sign++ {
					all = append(all, ahead(sign, t, u))
				}
			}
		}
	}
	return all
}

// shortTerms are all terms of at most 5 numbers.
func shortTerms() [][]int {
	return slices.Concat(termsOf(1), termsOf(2), termsOf(3), termsOf(4), termsOf(5))
}

// longTerms are terms of 13, 14 and 15 numbers: many opposites, and signs that
// all have others in their first term, in their second one, or in both.
func longTerms() [][]int {
	var all [][]int
	for _, leaf := range []int{0, 2, impl.SyLeast, impl.SyGreatest} {
		for count := 12; count <= 14; count++ {
			all = append(all, append(slices.Repeat([]int{impl.SyNot}, count), leaf))
		}
	}
	for sign := impl.SyMeet; sign <= impl.SyImply; sign++ {
		left, right := []int{0}, []int{1}
		for i := range 7 {
			left, right = ahead(sign, left, []int{i % 3}), ahead(sign, []int{i % 3}, right)
		}
		three := []int{sign, 2, 0}
		both := ahead(sign, ahead(sign, three, three), ahead(sign, three, three))
		all = append(all, left, right, both, ahead(impl.SyNot, left[1:14]), ahead(impl.SyNot, right[2:]))
	}
	return all
}

// sampleTerms are terms that say something of many algebras: the laws among
// them, names alone, and what is true in all, in some, or in none.
func sampleTerms() [][]int {
	var all [][]int
	for _, s := range []string{
		"x", "y", "z", "0", "1", "-x", "-z", "--x", "---y", "-0", "-1",
		"(x&y)", "(x|y)", "(x*y)", "(x>y)", "(y>x)", "(z>z)", "(x*x)", "(x*(x*x))", "(x*(x*(x*(x*x))))",
		"(x&-x)", "(x*-x)", "(x|-x)", "(-x|--x)", "(--x>x)", "(x>--x)", "(x>(x*x))", "((x*x)>x)",
		"((x>y)|(y>x))", "((x&y)>(x*(x>y)))", "((x*(x>y))>(x&y))", "((x>y)>y)", "(((x>y)>x)>x)",
		"((x>(y>z))>((x*y)>z))", "((x&(y|z))>((x&y)|(x&z)))", "(-(x&y)>(-x|-y))", "(y*(z>0))", "((x&0)|(1*z))",
	} {
		all = append(all, term(s))
	}
	return all
}

// eachNames calls do with all elements for the names, of n elements, that with
// the lesser one at the first place first.
func eachNames(n int, do func(names []int)) {
	choose(slices.Repeat([][]int{numbersFrom(0, n)}, 3), do)
}

// valuesOf are the values of a term in an algebra with all elements for the
// names.
func valuesOf(ops [mapLaws][][]int, t []int) []int {
	var values []int
	eachNames(len(ops[keepsProducts]), func(names []int) {
		values = append(values, plainValue(ops, t, names))
	})
	return values
}

// plainRefutation follows the document's words for RefuteTerm; nil if there is
// none.
func plainRefutation(ops [mapLaws][][]int, t []int) []int {
	var refutation []int
	n := len(ops[keepsProducts])
	eachNames(n, func(names []int) {
		if refutation == nil && plainValue(ops, t, names) != n-1 {
			refutation = slices.Clone(names)
		}
	})
	return refutation
}

// noTerms are numbers that are no term, each for its own reason.
var noTerms = map[string][]int{
	"nothing":                        nil,
	"an empty list":                  {},
	"an opposite of nothing":         {impl.SyNot},
	"two opposites of nothing":       {impl.SyNot, impl.SyNot},
	"a meet of nothing":              {impl.SyMeet},
	"a join of nothing":              {impl.SyJoin},
	"a product of nothing":           {impl.SyTimes},
	"an implication of nothing":      {impl.SyImply},
	"a meet of one":                  {impl.SyMeet, 0},
	"a join of one":                  {impl.SyJoin, 1},
	"a product of one":               {impl.SyTimes, impl.SyGreatest},
	"an implication of one":          {impl.SyImply, impl.SyLeast},
	"a meet of one opposite":         {impl.SyMeet, impl.SyNot, 0},
	"an opposite of a meet of one":   {impl.SyNot, impl.SyMeet, 0},
	"a meet of a meet of two":        {impl.SyMeet, impl.SyMeet, 0, 1},
	"a meet without its last":        {impl.SyMeet, 0, impl.SyNot},
	"signs alone":                    {impl.SyMeet, impl.SyJoin, impl.SyTimes, impl.SyImply},
	"a name behind a name":           {0, 0},
	"a name behind the greatest":     {impl.SyGreatest, 0},
	"the greatest behind a name":     {0, impl.SyGreatest},
	"a name behind an opposite":      {impl.SyNot, 0, 1},
	"a name behind a meet":           {impl.SyMeet, 0, 1, 2},
	"a sign behind a name":           {0, impl.SyNot},
	"a sign behind a product":        {impl.SyTimes, 0, 1, impl.SyTimes},
	"a term behind a term":           {impl.SyImply, 0, 1, impl.SyImply, 1, 0},
	"a sign between its terms":       {0, impl.SyMeet, 1},
	"a sign behind its terms":        {0, 1, impl.SyMeet},
	"a name too many":                {3},
	"9":                              {9},
	"a sign too many":                {17},
	"a sign too many and two names":  {17, 0, 0},
	"-1":                             {-1},
	"-2":                             {-2},
	"a negative sign":                {-impl.SyNot, 0},
	"a negative sign and two names":  {-impl.SyMeet, 0, 0},
	"the least number":               {math.MinInt},
	"the greatest number":            {math.MaxInt},
	"0 in 32 bits":                   {1 << 32},
	"an opposite in 32 bits":         {1<<32 | impl.SyNot, 0},
	"a meet in 8 bits":               {1<<8 | impl.SyMeet, 0, 1},
	"an opposite of a name too many": {impl.SyNot, 3},
	"a meet of a name too many":      {impl.SyMeet, 3, 0},
	"a meet with a name too many":    {impl.SyMeet, 0, 3},
	"a meet of 17":                   {impl.SyMeet, 0, 17},
	"a product of -1":                {impl.SyTimes, -1, 0},
	"a product with -1":              {impl.SyTimes, 0, -1},
	"digits of a text":               {'0'},
	"a letter of a text":             {'x'},
	"16 names":                       make([]int, 16),
	"a thousand names":               make([]int, 1000),
	"15 names":                       make([]int, 15),
	"15 opposites of nothing":        slices.Repeat([]int{impl.SyNot}, 15),
	"15 opposites of a name":         append(slices.Repeat([]int{impl.SyNot}, 15), 0),
	"16 opposites of a name":         append(slices.Repeat([]int{impl.SyNot}, 16), 0),
	"a million opposites of a name":  append(slices.Repeat([]int{impl.SyNot}, 1000000), 0),
	"a million meets":                slices.Repeat([]int{impl.SyMeet}, 1000000),
	"8 signs of 9 names":             append(slices.Repeat([]int{impl.SyJoin}, 8), 0, 0, 0, 0, 0, 0, 0, 0, 0),
	"8 signs, one behind the other":  append(slices.Repeat([]int{impl.SyTimes, 0}, 8), 0),
	"an opposite of 15 numbers":      ahead(impl.SyNot, slices.Repeat([]int{impl.SyTimes, 0}, 7), []int{0}),
	"7 signs of 7 names":             append(slices.Repeat([]int{impl.SyJoin}, 7), 0, 0, 0, 0, 0, 0, 0),
}

// termBytes are put into texts of terms to spoil them.
const termBytes = "xz013-&|*>()w+X,: \n\x00\xb0"

// noTermTexts are texts of no term, each for its own reason.
var noTermTexts = map[string]string{
	"nothing":                        "",
	"a letter of no name":            "w",
	"another letter":                 "a",
	"a great letter":                 "X",
	"a digit too many":               "2",
	"a number of the term":           "12",
	"a name that is a number":        "11",
	"a blank":                        " ",
	"a blank ahead":                  " x",
	"a blank behind":                 "x ",
	"a blank behind an opposite":     "- x",
	"blanks around a sign":           "(x & y)",
	"a blank behind a bracket":       "( x&y)",
	"a blank ahead of a bracket":     "(x&y )",
	"a blank for a sign":             "(x y)",
	"a tab":                          "\tx",
	"a newline":                      "x\n",
	"a zero byte":                    "x\x00",
	"zero bytes":                     "\x00\x00",
	"a zero byte for a bracket":      "(x&y\x00",
	"a byte that is no text":         "\xff",
	"a letter that is none of ASCII": "\u0445",
	"a wide x":                       "\uff58",
	"a minus that is none of ASCII":  "\u2212x",
	"an opposite of nothing":         "-",
	"two opposites of nothing":       "--",
	"an opposite of a sign":          "-&",
	"an opposite behind":             "x-",
	"an opposite for a sign":         "(x-y)",
	"an opposite of a bracket":       "-(",
	"an opposite in brackets":        "(-x)",
	"a name in brackets":             "(x)",
	"a meet in two brackets":         "((x&y))",
	"brackets alone":                 "()",
	"an opening bracket alone":       "(",
	"a closing bracket alone":        ")",
	"brackets the wrong way":         ")x&y(",
	"without brackets":               "x&y",
	"without the first bracket":      "x&y)",
	"without the last bracket":       "(x&y",
	"cut off behind the bracket":     "(x",
	"cut off behind the sign":        "(x&",
	"cut off in the second one":      "(x&(y|z)",
	"cut off in the first one":       "((x&y",
	"without the inner bracket":      "((x&y|z)",
	"a bracket too many":             "(x&y))",
	"a bracket too many ahead":       "((x&y)",
	"another bracket":                "[x&y]",
	"a sign alone":                   "&",
	"signs alone":                    "&|*>",
	"a sign in brackets":             "(&)",
	"a sign without its first":       "(&y)",
	"a sign without its second":      "(x&)",
	"a sign twice":                   "(x&&y)",
	"two signs":                      "(x&|y)",
	"an arrow":                       "(x->y)",
	"three terms":                    "(x&y&z)",
	"no sign":                        "(xy)",
	"two names":                      "xy",
	"a name for a sign":              "(xyz)",
	"the greatest for a sign":        "(x1y)",
	"the least for a sign":           "(x0y)",
	"another sign":                   "(x+y)",
	"another sign of implication":    "(x<y)",
	"a sign ahead":                   "&xy",
	"a sign ahead with a comma":      "&(x,y)",
	"a comma":                        "(x,y)",
	"a name behind the bracket":      "(x&y)z",
	"a sign behind the bracket":      "(x&y)&",
	"a term behind the bracket":      "(x&y)(x&y)",
	"a term and a sign behind it":    "(x&y)|z",
	"a bracket behind a name":        "x)",
	"a name of no name in a meet":    "(x&w)",
	"a name of no name ahead":        "(w&x)",
	"numbers":                        "13,0,1",
	"an algebra":                     "1:0",
	"15 opposites":                   strings.Repeat("-", 15) + "x",
	"16 opposites":                   strings.Repeat("-", 16) + "x",
	"15 opposites of nothing":        strings.Repeat("-", 15),
	"8 signs to the left":            strings.Repeat("(", 8) + "x" + strings.Repeat("&x)", 8),
	"8 signs to the right":           strings.Repeat("(x&", 8) + "x" + strings.Repeat(")", 8),
	"an opposite of 15 numbers":      "-" + strings.Repeat("(", 7) + "x" + strings.Repeat("&x)", 7),
	"an opposite in 15 numbers":      strings.Repeat("(", 7) + "x" + strings.Repeat("&x)", 6) + "&-x)",
	"20 opening brackets":            strings.Repeat("(", 20),
	"a million opposites":            strings.Repeat("-", 1000000),
	"a million opposites of x":       strings.Repeat("-", 1000000) + "x",
	"a million opening brackets":     strings.Repeat("(", 1000000),
	"a million closing brackets":     strings.Repeat(")", 1000000),
	"a million names":                strings.Repeat("x", 1000000),
	"a million signs":                strings.Repeat("(x&", 1000000) + "x" + strings.Repeat(")", 1000000),
}
