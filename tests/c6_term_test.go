package tests

import (
	"slices"
	"strings"
	"testing"

	"loop.example/residuatedtables/impl"
)

// TestTermNumbers: the numbers of terms and the limits are those of the document.
func TestTermNumbers(t *testing.T) {
	got := []int{impl.SyLeast, impl.SyGreatest, impl.SyNot, impl.SyMeet, impl.SyJoin, impl.SyTimes, impl.SyImply, impl.MaxNames, impl.MaxTerm, impl.MaxDesk}
	if want := []int{10, 11, 12, 13, 14, 15, 16, 3, 15, 20}; !slices.Equal(got, want) {
		t.Errorf("the constants are %v", got)
	}
}

// checkTerm holds ValidTerm and TermText against the words of the document.
func checkTerm(t *testing.T, numbers []int) {
	t.Helper()
	want, text := plainTerm(numbers), ""
	if want {
		text = plainTermText(numbers)
	}
	if got := impl.ValidTerm(numbers); got != want {
		t.Fatalf("ValidTerm(%v) = %t", numbers, got)
	}
	if got := impl.TermText(numbers); got != text {
		t.Fatalf("TermText(%v) = %q, want %q", numbers, got, text)
	}
}

// TestTermsPlain tries all numbers up to 3, some up to 5, all terms of at most 5,
// and long terms with a number more, less, or changed.
func TestTermsPlain(t *testing.T) {
	for count := range 4 {
		choose(slices.Repeat([][]int{numbersFrom(-2, 19)}, count), func(list []int) { checkTerm(t, list) })
	}
	for count := 4; count <= 5; count++ {
		choose(slices.Repeat([][]int{{0, 2, 3, 10, 11, 12, 13, 16, 17}}, count), func(list []int) { checkTerm(t, list) })
	}
	for _, numbers := range shortTerms() {
		checkTerm(t, numbers)
	}
	for _, numbers := range longTerms() {
		if !plainTerm(numbers) || len(numbers) < 13 {
			t.Fatalf("%v is no long term", numbers)
		}
		checkTerm(t, numbers)
		for i := range numbers {
			checkTerm(t, slices.Delete(slices.Clone(numbers), i, i+1))
			for number := -1; number <= 17; number++ {
				changed := slices.Clone(numbers)
				changed[i] = number
				checkTerm(t, changed)
				checkTerm(t, slices.Insert(slices.Clone(numbers), i, number))
			}
		}
	}
}

// TestTermsFixed: terms and their texts by hand, names alone among them.
func TestTermsFixed(t *testing.T) {
	for text, numbers := range map[string][]int{
		"x":                             {0},
		"y":                             {1},
		"z":                             {2},
		"0":                             {10},
		"1":                             {11},
		"-x":                            {12, 0},
		"--1":                           {12, 12, 11},
		"(x&y)":                         {13, 0, 1},
		"(y|z)":                         {14, 1, 2},
		"(z*x)":                         {15, 2, 0},
		"(x>0)":                         {16, 0, 10},
		"-(x*0)":                        {12, 15, 0, 10},
		"(-x>--y)":                      {16, 12, 0, 12, 12, 1},
		"((x&y)|z)":                     {14, 13, 0, 1, 2},
		"(x&(y|z))":                     {13, 0, 14, 1, 2},
		"((x>y)|(y>x))":                 {14, 16, 0, 1, 16, 1, 0},
		"((x&y)>(x*(x>y)))":             {16, 13, 0, 1, 15, 0, 16, 0, 1},
		"--------------x":               {12, 12, 12, 12, 12, 12, 12, 12, 12, 12, 12, 12, 12, 12, 0},
		"(((x&y)&(z&0))&((1|x)*(y>z)))": {13, 13, 13, 0, 1, 13, 2, 10, 15, 14, 11, 0, 16, 1, 2},
		"(x>(y>(z>(x>(y>(z>(x>y)))))))": {16, 0, 16, 1, 16, 2, 16, 0, 16, 1, 16, 2, 16, 0, 1},
		"(((((((x*y)*z)*x)*y)*z)*x)*y)": {15, 15, 15, 15, 15, 15, 15, 0, 1, 2, 0, 1, 2, 0, 1},
	} {
		if !impl.ValidTerm(numbers) || impl.TermText(numbers) != text {
			t.Errorf("TermText(%v) = %q, want %q", numbers, impl.TermText(numbers), text)
		}
		if got, ok := impl.ParseTerm(text); !ok || !slices.Equal(got, numbers) {
			t.Errorf("ParseTerm(%q) = %v, %t", text, got, ok)
		}
	}
}

// checkNoTerm: the results where there is no term, or no algebra. The others
// are such that a function that looks at them alone would answer.
func checkNoTerm(t *testing.T, name string, a impl.Algebra, numbers []int) {
	t.Helper()
	for _, names := range [][]int{{0, 0, 0}, {0, 0, 0, 0}, {0}, nil} {
		if got := impl.ValueOf(a, numbers, names); got != -1 {
			t.Errorf("%s: ValueOf %v = %d", name, names, got)
		}
	}
	if got, ok := impl.RefuteTerm(a, numbers); ok || got != nil {
		t.Errorf("%s: RefuteTerm = %v, %t", name, got, ok)
	}
	if impl.IsTrue(a, numbers) {
		t.Errorf("%s: IsTrue", name)
	}
	for _, other := range [][]int{{impl.SyLeast}, {impl.SyGreatest}, {0}, numbers} {
		for _, two := range [][2][]int{{numbers, other}, {other, numbers}} {
			if impl.Follows(a, two[0], two[1]) {
				t.Errorf("%s: Follows with %v", name, other)
			}
			if k, ok := impl.LeastPower(a, two[0], two[1]); ok || k != 0 {
				t.Errorf("%s: LeastPower with %v = %d, %t", name, other, k, ok)
			}
		}
	}
}

// TestNoTerm checks the fixed results for numbers that are no term.
func TestNoTerm(t *testing.T) {
	for name, numbers := range noTerms {
		if plainTerm(numbers) || impl.ValidTerm(numbers) {
			t.Errorf("%s: ValidTerm", name)
		}
		if got := impl.TermText(numbers); got != "" {
			t.Errorf("%s: TermText = %q", name, got)
		}
		for _, a := range []impl.Algebra{oneOnly, two2(), meet3, square4, sums6()} {
			checkNoTerm(t, name, a, numbers)
		}
	}
}

// TestNoAlgebraNoValue checks the fixed results for what is no algebra.
func TestNoAlgebraNoValue(t *testing.T) {
	for name, a := range noAlgebras {
		for _, numbers := range sampleTerms() {
			checkNoTerm(t, name, a, numbers)
		}
	}
}

// TestNoNames checks the fixed result of ValueOf for elements that are not those
// of MaxNames names, also where the term has no name.
func TestNoNames(t *testing.T) {
	for _, a := range everyAlgebra() {
		n := len(a.Up)
		for _, names := range noListsLike([]int{n - 1, 0, n - 1}, n) {
			for _, numbers := range [][]int{{0}, {1}, {2}, {impl.SyLeast}, {impl.SyGreatest}, {impl.SyImply, 0, 0}} {
				if got := impl.ValueOf(a, numbers, names); got != -1 {
					t.Fatalf("ValueOf(%v, %v, %v) = %d", a, numbers, names, got)
				}
			}
		}
	}
}

// TestValuesPlain holds ValueOf against the words of the document: in all
// algebras of at most 3 elements, for all terms of at most 3 numbers and the
// samples, and in all algebras for the samples with some names.
func TestValuesPlain(t *testing.T) {
	small := slices.Concat(termsOf(1), termsOf(2), termsOf(3), sampleTerms(), longTerms())
	for _, a := range everyAlgebra() {
		ops, terms, step := operationsOf(a), small, 1
		if len(a.Up) > 3 {
			terms, step = sampleTerms(), 11
		}
		count := 0
		for _, numbers := range terms {
			eachNames(len(a.Up), func(names []int) {
				count++
				if count%step != 0 {
					return
				}
				if got, want := impl.ValueOf(a, numbers, names), plainValue(ops, numbers, names); got != want {
					t.Fatalf("ValueOf(%v, %v, %v) = %d, want %d", a, numbers, names, got, want)
				}
			})
		}
	}
}

// TestValuesFixed: values by hand.
func TestValuesFixed(t *testing.T) {
	for _, c := range []struct {
		a     impl.Algebra
		text  string
		names []int
		want  int
	}{
		{oneOnly, "0", []int{0, 0, 0}, 0},
		{oneOnly, "(x>-y)", []int{0, 0, 0}, 0},
		{sum3, "x", []int{1, 2, 0}, 1},
		{sum3, "y", []int{1, 2, 0}, 2},
		{sum3, "z", []int{1, 2, 0}, 0},
		{sum3, "0", []int{1, 2, 1}, 0},
		{sum3, "1", []int{1, 0, 1}, 2},
		{sum3, "-x", []int{1, 0, 0}, 1},
		{meet3, "-x", []int{1, 0, 0}, 0},
		{sum3, "(x*x)", []int{1, 0, 0}, 0},
		{meet3, "(x*x)", []int{1, 0, 0}, 1},
		{sum3, "(x>y)", []int{2, 1, 0}, 1},
		{sum3, "(y>x)", []int{2, 1, 0}, 2},
		{sum3, "(x>y)", []int{1, 0, 0}, 1},
		{meet3, "(x>y)", []int{1, 0, 0}, 0},
		{square4, "(x&y)", []int{1, 2, 0}, 0},
		{square4, "(x|y)", []int{1, 2, 0}, 3},
		{square4, "(x>y)", []int{1, 2, 0}, 2},
		{square4, "(y>x)", []int{1, 2, 0}, 1},
		{drastic4, "(x*y)", []int{2, 2, 0}, 0},
		{drastic4, "(x&y)", []int{2, 1, 0}, 1},
		{drastic4, "((z*1)|(x*y))", []int{2, 2, 1}, 1},
		{swapped4, "(x&y)", []int{1, 2, 0}, 2},
		{swapped4, "(x>y)", []int{2, 1, 0}, 3},
		{sums6(), "((x*y)*z)", []int{4, 4, 4}, 2},
		{sums6(), "(x>(y>z))", []int{5, 4, 2}, 3},
	} {
		if got := impl.ValueOf(c.a, term(c.text), c.names); got != c.want {
			t.Errorf("ValueOf %s with %v = %d, want %d", c.text, c.names, got, c.want)
		}
	}
}

// TestTruthPlain holds RefuteTerm and IsTrue against the words of the document
// for the samples in all algebras.
func TestTruthPlain(t *testing.T) {
	refuted, last := 0, 0
	for _, a := range everyAlgebra() {
		ops := operationsOf(a)
		for _, numbers := range append(sampleTerms(), longTerms()...) {
			want := plainRefutation(ops, numbers)
			if got, ok := impl.RefuteTerm(a, numbers); ok != (want != nil) || !slices.Equal(got, want) {
				t.Fatalf("RefuteTerm(%v, %v) = %v, %t, want %v", a, numbers, got, ok, want)
			}
			if got := impl.IsTrue(a, numbers); got != (want == nil) {
				t.Fatalf("IsTrue(%v, %v) = %t", a, numbers, got)
			}
			if want != nil {
				refuted++
				last = max(last, want[2])
			}
		}
	}
	if refuted == 0 || last == 0 {
		t.Errorf("%d terms are refuted, the last name is at most %d", refuted, last)
	}
}

// TestRefuteFixed: refutations by hand; names that do not matter are 0, and the
// last one changes first.
func TestRefuteFixed(t *testing.T) {
	for _, c := range []struct {
		a    impl.Algebra
		text string
		want []int
	}{
		{two2(), "x", []int{0, 0, 0}},
		{two2(), "0", []int{0, 0, 0}},
		{two2(), "-x", []int{1, 0, 0}},
		{two2(), "-y", []int{0, 1, 0}},
		{two2(), "-z", []int{0, 0, 1}},
		{two2(), "-(x&z)", []int{1, 0, 1}},
		{two2(), "-(x*(y&z))", []int{1, 1, 1}},
		{meet3, "(--x>x)", []int{1, 0, 0}},
		{meet3, "(z|-z)", []int{0, 0, 1}},
		{meet3, "((x>y)>y)", []int{0, 0, 0}},
		{meet3, "(((x>y)>x)>x)", []int{1, 0, 0}},
		{meet3, "(y>(x|z))", []int{0, 1, 0}},
		{sum3, "(x>(x*x))", []int{1, 0, 0}},
		{sum3, "((y&y)>(y*y))", []int{0, 1, 0}},
		{square4, "((x>y)|(z>y))", []int{1, 0, 1}},
		{sums6(), "-(x*(y*z))", []int{1, 5, 5}},
	} {
		if got, ok := impl.RefuteTerm(c.a, term(c.text)); !ok || !slices.Equal(got, c.want) {
			t.Errorf("RefuteTerm %s = %v, %t, want %v", c.text, got, ok, c.want)
		}
	}
	for _, text := range []string{"0", "x", "-1", "(x&-x)"} {
		if got, ok := impl.RefuteTerm(oneOnly, term(text)); ok || got != nil || !impl.IsTrue(oneOnly, term(text)) {
			t.Errorf("RefuteTerm %s in one element = %v, %t", text, got, ok)
		}
	}
}

// powersOf are for each power from 0 to 20 those of all elements.
func powersOf(a impl.Algebra) [21][]int {
	var powers [21][]int
	for k := range powers {
		for x := range a.Up {
			powers[k] = append(powers[k], plainPower(a, x, k))
		}
	}
	return powers
}

// checkFollows holds Follows and LeastPower against the words of the document
// for all pairs of terms in an algebra.
func checkFollows(t *testing.T, a impl.Algebra, terms [][]int) (most, without int) {
	t.Helper()
	ops, powers := operationsOf(a), powersOf(a)
	var values [][]int
	for _, numbers := range terms {
		values = append(values, valuesOf(ops, numbers))
	}
	for i, p := range terms {
		for j, u := range terms {
			follows, power := true, -1
			for at, x := range values[i] {
				follows = follows && (x != len(a.Up)-1 || values[j][at] == len(a.Up)-1)
			}
			for k := range powers {
				enough := true
				for at, x := range values[i] {
					enough = enough && below(a.Up, powers[k][x], values[j][at])
				}
				if enough {
					power = k
					break
				}
			}
			if got := impl.Follows(a, p, u); got != follows {
				t.Fatalf("Follows(%v, %v, %v) = %t", a, p, u, got)
			}
			if k, ok := impl.LeastPower(a, p, u); ok != (power >= 0) || k != max(power, 0) {
				t.Fatalf("LeastPower(%v, %v, %v) = %d, %t, want %d", a, p, u, k, ok, power)
			}
			most = max(most, power)
			if follows && power < 0 {
				without++
			}
		}
	}
	return most, without
}

// TestFollowsPlain: all pairs of samples in the algebras of at most 3 elements,
// and some in all algebras.
func TestFollowsPlain(t *testing.T) {
	few := [][]int{term("x"), term("(x*x)"), term("(x*(x*(x*(x*x))))"), term("-x"), term("--x"), term("(x&-x)"), term("(x>(y&z))"), term("((x>y)>y)"), term("0")}
	most, without := 0, 0
	for _, a := range everyAlgebra() {
		terms := few
		if len(a.Up) <= 3 {
			terms = sampleTerms()
		}
		k, n := checkFollows(t, a, terms)
		most, without = max(most, k), without+n
	}
	if most != 5 || without == 0 {
		t.Errorf("the greatest power is %d, and %d terms follow without one", most, without)
	}
}

// TestPowersFixed: powers by hand, as many as there are elements but one among
// them, and those that are not enough.
func TestPowersFixed(t *testing.T) {
	for _, c := range []struct {
		a     impl.Algebra
		p, t  string
		power int
	}{
		{oneOnly, "x", "0", 0},
		{oneOnly, "1", "0", 0},
		{two2(), "x", "(y>y)", 0},
		{two2(), "0", "x", 1},
		{two2(), "x", "x", 1},
		{two2(), "(x&-x)", "0", 1},
		{sum3, "x", "(x*x)", 2},
		{sum3, "(x&-x)", "0", 2},
		{sum3, "x", "(y>x)", 1},
		{sums6(), "x", "(x*x)", 2},
		{sums6(), "x", "(x*(x*x))", 3},
		{sums6(), "x", "((x*x)*(x*x))", 4},
		{sums6(), "x", "(x*(x*(x*(x*x))))", 5},
		{sums6(), "x", "(x*(x*(x*(x*(x*(x*(x*x)))))))", 5},
		{sums6(), "(x*x)", "(x*(x*(x*(x*x))))", 3},
		{sums6(), "-x", "-(x|x)", 1},
	} {
		if k, ok := impl.LeastPower(c.a, term(c.p), term(c.t)); !ok || k != c.power {
			t.Errorf("LeastPower %s, %s = %d, %t", c.p, c.t, k, ok)
		}
		if !impl.Follows(c.a, term(c.p), term(c.t)) {
			t.Errorf("%s does not follow from %s", c.t, c.p)
		}
	}
	for _, c := range []struct {
		a    impl.Algebra
		p, t string
	}{
		{two2(), "1", "0"}, {two2(), "x", "0"}, {two2(), "x", "y"}, {meet3, "x", "0"}, {meet3, "--x", "x"}, {meet3, "1", "(x|-x)"}, {square4, "(x|y)", "x"}, {sums6(), "(y>y)", "x"},
	} {
		if k, ok := impl.LeastPower(c.a, term(c.p), term(c.t)); ok || k != 0 || impl.Follows(c.a, term(c.p), term(c.t)) {
			t.Errorf("LeastPower %s, %s = %d, %t", c.p, c.t, k, ok)
		}
	}
}

// TestLaws: the terms of the properties by hand, and none for other names.
func TestLaws(t *testing.T) {
	for name, want := range map[string][]int{
		"prelinear":  {14, 16, 0, 1, 16, 1, 0},
		"divisible":  {16, 13, 0, 1, 15, 0, 16, 0, 1},
		"involutive": {16, 12, 12, 0, 0},
		"idempotent": {16, 0, 15, 0, 0},
		"boolean":    {14, 0, 12, 0},
	} {
		if got := impl.LawOf(name); !slices.Equal(got, want) {
			t.Errorf("LawOf(%q) = %v", name, got)
		}
	}
	for _, name := range noProperties {
		if got := impl.LawOf(name); got != nil {
			t.Errorf("LawOf(%q) = %v", name, got)
		}
	}
}

// checkParseTerm holds ParseTerm against the words of the document.
func checkParseTerm(t *testing.T, s string) (read bool) {
	t.Helper()
	want, is := plainParseTerm(s)
	if got, ok := impl.ParseTerm(s); ok != is || !slices.Equal(got, want) || !ok && got != nil {
		t.Fatalf("ParseTerm(%q) = %v, %t, want %v", s, got, ok, want)
	}
	return is
}

// TestTermTextsPlain tries all texts of at most 4 bytes of those that stand in
// texts, and texts of terms that are spoiled by a byte.
func TestTermTextsPlain(t *testing.T) {
	letters := []byte("xyz01-&|*>() w")
	read := 0
	for count := range 5 {
		choose(slices.Repeat([][]int{numbersFrom(0, len(letters))}, count), func(list []int) {
			s := ""
			for _, at := range list {
				s += string(letters[at])
			}
			if checkParseTerm(t, s) {
				read++
			}
		})
	}
	if want := 5 + 5 + 5 + 5; read != want {
		t.Errorf("%d short texts are read, want %d", read, want)
	}
	for _, numbers := range slices.Concat(termsOf(3), sampleTerms(), longTerms()) {
		for _, s := range changedTexts(plainTermText(numbers), termBytes) {
			checkParseTerm(t, s)
		}
	}
}

// TestNoTermText checks the fixed result for texts of no term.
func TestNoTermText(t *testing.T) {
	for name, s := range noTermTexts {
		if _, is := plainParseTerm(s); is {
			t.Errorf("%s: it is the text of a term", name)
		}
		if got, ok := impl.ParseTerm(s); ok || got != nil {
			t.Errorf("%s: ParseTerm = %v, %t", name, got, ok)
		}
	}
	for _, numbers := range longTerms() {
		text := plainTermText(numbers)
		for i := range len(text) {
			if got, ok := impl.ParseTerm(text[:i]); ok || got != nil {
				t.Errorf("ParseTerm(%q) = %v", text[:i], got)
			}
			if got, ok := impl.ParseTerm(text + text[i:]); ok || got != nil {
				t.Errorf("ParseTerm(%q) = %v", text+text[i:], got)
			}
		}
	}
}

// P53: a term with SyNot ahead of it is one, if it is not too long, and it has a
// text.
func TestPromise53(t *testing.T) {
	tooLong := 0
	for _, numbers := range append(shortTerms(), longTerms()...) {
		denied := ahead(impl.SyNot, numbers)
		fits := len(denied) <= impl.MaxTerm
		if !fits {
			tooLong++
		}
		if !impl.ValidTerm(numbers) || impl.ValidTerm(denied) != fits || (impl.TermText(denied) != "") != fits {
			t.Fatalf("%v: ValidTerm of %v is %t", numbers, denied, impl.ValidTerm(denied))
		}
	}
	if tooLong == 0 {
		t.Error("no term is too long")
	}
}

// P54: ValueOf SyNot and a term is NotOf its value, and of the term implied of
// itself the greatest element.
func TestPromise54(t *testing.T) {
	for _, a := range everyAlgebra() {
		count := 0
		for _, numbers := range sampleTerms() {
			denied, same := ahead(impl.SyNot, numbers), ahead(impl.SyImply, numbers, numbers)
			eachNames(len(a.Up), func(names []int) {
				count++
				if len(a.Up) > 3 && count%23 != 0 {
					return
				}
				value := impl.ValueOf(a, numbers, names)
				if got := impl.ValueOf(a, denied, names); got != impl.NotOf(a, value) {
					t.Fatalf("ValueOf(%v, %v, %v) = %d", a, denied, names, got)
				}
				if got := impl.ValueOf(a, same, names); len(same) <= impl.MaxTerm && got != len(a.Up)-1 {
					t.Fatalf("ValueOf(%v, %v, %v) = %d", a, same, names, got)
				}
			})
		}
	}
}

// P55: ValueOf with RefuteTerm is not the greatest element.
func TestPromise55(t *testing.T) {
	refuted := 0
	for _, a := range everyAlgebra() {
		for _, numbers := range sampleTerms() {
			names, ok := impl.RefuteTerm(a, numbers)
			if !ok {
				continue
			}
			refuted++
			if got := impl.ValueOf(a, numbers, names); got < 0 || got >= len(a.Up)-1 {
				t.Fatalf("ValueOf(%v, %v, %v) = %d", a, numbers, names, got)
			}
		}
	}
	if refuted == 0 {
		t.Error("no term is refuted")
	}
}

// P56: where IsTrue holds of a term it holds in each QuotientOf, and follows from
// the greatest element.
func TestPromise56(t *testing.T) {
	found := 0
	for _, a := range everyAlgebra() {
		var quotients []impl.Algebra
		for _, f := range impl.FiltersOf(a) {
			q, _, _ := impl.QuotientOf(a, f)
			quotients = append(quotients, q)
		}
		for _, numbers := range sampleTerms() {
			if !impl.IsTrue(a, numbers) {
				continue
			}
			if !impl.Follows(a, []int{impl.SyGreatest}, numbers) {
				t.Fatalf("%v does not follow in %v", numbers, a)
			}
			for _, q := range quotients {
				found++
				if !impl.IsTrue(q, numbers) {
					t.Fatalf("%v is true in %v, not in %v", numbers, a, q)
				}
			}
		}
	}
	if found == 0 {
		t.Error("no term is true")
	}
}

// P57: Follows holds of what is true, of a term and itself, and of all terms from
// the least element in algebras of more than one element.
func TestPromise57(t *testing.T) {
	samples := sampleTerms()
	for _, a := range everyAlgebra() {
		for i, numbers := range samples {
			other := samples[(i+7)%len(samples)]
			if impl.IsTrue(a, numbers) && !impl.Follows(a, other, numbers) {
				t.Fatalf("%v is true in %v and does not follow from %v", numbers, a, other)
			}
			if !impl.Follows(a, numbers, numbers) {
				t.Fatalf("%v does not follow from itself in %v", numbers, a)
			}
			if len(a.Up) > 1 && !impl.Follows(a, []int{impl.SyLeast}, numbers) {
				t.Fatalf("%v does not follow from the least element of %v", numbers, a)
			}
		}
	}
}

// P58: where there is a LeastPower the term follows, it is at most the number of
// elements, and 0 exactly for what is true.
func TestPromise58(t *testing.T) {
	found := 0
	for _, a := range everyAlgebra() {
		for i, numbers := range sampleTerms() {
			isTrue := impl.IsTrue(a, numbers)
			for j, p := range sampleTerms() {
				if len(a.Up) > 3 && (i+j)%13 != 0 {
					continue
				}
				k, ok := impl.LeastPower(a, p, numbers)
				if (ok && k == 0) != isTrue {
					t.Fatalf("LeastPower(%v, %v, %v) = %d, %t", a, p, numbers, k, ok)
				}
				if !ok {
					continue
				}
				found++
				if k < 0 || k > len(a.Up) || !impl.Follows(a, p, numbers) {
					t.Fatalf("LeastPower(%v, %v, %v) = %d", a, p, numbers, k)
				}
			}
		}
	}
	if found == 0 {
		t.Error("no power implies a term")
	}
}

// P59: IsTrue of LawOf holds exactly if HasProperty does, here in all algebras,
// three chains and two that are no chain among them.
func TestPromise59(t *testing.T) {
	for _, name := range properties {
		holds := 0
		algebras := append(slices.Clone(everyAlgebra()), sum3, meet3, drastic4, square4, stack5, two3())
		for _, a := range algebras {
			want := impl.HasProperty(name, a)
			if got := impl.IsTrue(a, impl.LawOf(name)); got != want {
				t.Fatalf("IsTrue(%v, LawOf(%q)) = %t", a, name, got)
			}
			if want {
				holds++
			}
		}
		if holds == 0 || holds == len(algebras) {
			t.Errorf("%s holds of %d algebras", name, holds)
		}
	}
}

// P60: ParseTerm of TermText is the term.
func TestPromise60(t *testing.T) {
	for _, numbers := range slices.Concat(shortTerms(), sampleTerms(), longTerms()) {
		text := impl.TermText(numbers)
		if got, ok := impl.ParseTerm(text); !ok || !slices.Equal(got, numbers) {
			t.Fatalf("ParseTerm(%q) = %v, %t", text, got, ok)
		}
	}
}

// P61: TermText of ParseTerm is the text. The texts are those that are nearly one
// of a term, so that some are read that ought not to be if reading is loose.
func TestPromise61(t *testing.T) {
	read := 0
	for _, numbers := range slices.Concat(termsOf(1), termsOf(3), sampleTerms(), longTerms()) {
		text := plainTermText(numbers)
		for _, s := range append(changedTexts(text, termBytes), text) {
			parsed, ok := impl.ParseTerm(s)
			if !ok {
				continue
			}
			read++
			if got := impl.TermText(parsed); got != s {
				t.Fatalf("TermText of ParseTerm(%q) = %q", s, got)
			}
		}
	}
	if read == 0 {
		t.Error("no text is read")
	}
}

// everyLine are the lines of all answers.
func everyLine() []string {
	lines := slices.Concat(whatLines, wrongLines)
	for line := range answeredLines {
		lines = append(lines, line)
	}
	slices.Sort(lines)
	return lines
}

// TestDeskFixed: a line alone, for each line of which the answer is known.
func TestDeskFixed(t *testing.T) {
	wants := map[string][]string{"what": whatLines, "wrong": wrongLines}
	for line, want := range answeredLines {
		wants[want] = append(wants[want], line)
	}
	for want, lines := range wants {
		for _, line := range lines {
			if got := impl.RunDesk([]string{line}); got != want+"\n" || plainAnswer(line) != want {
				t.Errorf("RunDesk of %q = %q, want %q", line, got, want)
			}
		}
	}
}

// TestDeskPlain tries lines that are nearly such as are answered.
func TestDeskPlain(t *testing.T) {
	answers := map[string]int{}
	for _, line := range []string{"true 1:0 x", "true 7,6,4:000/001/012 (--x>x)", "true 7,6,4:000/011/012 ((x&y)>z)", "refute 7,6,4:000/011/012 (x|-y)", "refute 3,2:00/01 -(x*1)", "filter 7,6,4:000/011/012 2", "filter 15,10,12,8:0000/0101/0022/0123 12"} {
		lines := changedTexts(line, lineBytes)
		for some := range slices.Chunk(lines, impl.MaxDesk) {
			want := ""
			for _, s := range some {
				answers[plainAnswer(s)]++
				want += plainAnswer(s) + "\n"
			}
			if got := impl.RunDesk(some); got != want {
				t.Fatalf("RunDesk(%q) = %q, want %q", some, got, want)
			}
		}
	}
	for _, answer := range []string{"yes", "no", "wrong", "what", "1,0,0", "6"} {
		if answers[answer] == 0 {
			t.Errorf("no line is answered by %s", answer)
		}
	}
}

// TestDeskTerms: true and refute of the samples, and filter of all sets and of
// numbers that are none, in some algebras.
func TestDeskTerms(t *testing.T) {
	for _, a := range []impl.Algebra{oneOnly, two2(), sum3, meet3, square4, swapped4, stack5, late5, two3(), sums6()} {
		var lines []string
		for _, numbers := range sampleTerms() {
			lines = append(lines, "true "+plainText(a)+" "+plainTermText(numbers), "refute "+plainText(a)+" "+plainTermText(numbers))
		}
		for set := -2; set <= 70; set++ {
			lines = append(lines, "filter "+plainText(a)+" "+withCommas([]int{set}))
		}
		for _, line := range lines {
			if got, want := impl.RunDesk([]string{line}), plainAnswer(line)+"\n"; got != want {
				t.Errorf("RunDesk of %q = %q, want %q", line, got, want)
			}
		}
	}
}

// TestDeskTooLong: no answers to more than MaxDesk lines, whatever these are.
func TestDeskTooLong(t *testing.T) {
	for _, line := range everyLine() {
		if got := impl.RunDesk(slices.Repeat([]string{line}, 21)); got != "" {
			t.Errorf("RunDesk of 21 lines %q = %q", line, got)
		}
	}
	if impl.RunDesk(make([]string, 21)) != "" || impl.RunDesk(make([]string, 1000)) != "" {
		t.Error("RunDesk of too many lines")
	}
	if impl.RunDesk(nil) != "" || impl.RunDesk([]string{}) != "" {
		t.Error("RunDesk of no lines")
	}
	if got := impl.RunDesk(make([]string, 20)); got != strings.Repeat("what\n", 20) {
		t.Errorf("RunDesk of 20 lines = %q", got)
	}
}

// TestDeskGreat: lines of a great length are answered like others.
func TestDeskGreat(t *testing.T) {
	many := 1000000
	for _, c := range [][2]string{
		{strings.Repeat(" ", many), "what\n"},
		{strings.Repeat("true", many) + " 1:0 x", "what\n"},
		{"true 1:0 " + strings.Repeat("(", many), "wrong\n"},
		{"refute " + strings.Repeat("1,", many) + " x", "wrong\n"},
		{"filter 1:0 " + strings.Repeat("0", many), "wrong\n"},
	} {
		if got := impl.RunDesk([]string{c[0]}); got != c[1] {
			t.Errorf("RunDesk of %q and more = %q", c[0][:20], got)
		}
	}
}

// P62: RunDesk has as many newlines as there are lines, and of the first lines it
// is the beginning of that of all.
func TestPromise62(t *testing.T) {
	for lines := range slices.Chunk(everyLine(), impl.MaxDesk) {
		all := impl.RunDesk(lines)
		for n := range len(lines) + 1 {
			got := impl.RunDesk(lines[:n])
			if strings.Count(got, "\n") != n || !strings.HasPrefix(all, got) || n > 0 && !strings.HasSuffix(got, "\n") {
				t.Fatalf("RunDesk(%q) = %q, of all %q", lines[:n], got, all)
			}
		}
	}
}

// checkTermsKept: no function changes an algebra, a term or elements for names,
// or what stands behind them.
func checkTermsKept(t *testing.T, plain impl.Algebra, numbers, elements []int) {
	t.Helper()
	a, keptAlgebra := guardedAlgebra(plain)
	u, keptTerm := guarded(numbers)
	names, keptNames := guarded(elements)
	other, keptOther := guarded([]int{impl.SyJoin, 0, impl.SyNot, 1})
	impl.ValidTerm(u)
	impl.TermText(u)
	impl.ValueOf(a, u, names)
	impl.IsTrue(a, u)
	impl.Follows(a, u, other)
	impl.Follows(a, other, u)
	impl.LeastPower(a, u, other)
	impl.LeastPower(a, other, u)
	refutation, _ := impl.RefuteTerm(a, u)
	scribble(refutation)
	parsed, _ := impl.ParseTerm(impl.TermText(u))
	scribble(parsed)
	if !keptAlgebra() || !keptTerm() || !keptNames() || !keptOther() {
		t.Fatalf("the arguments %v, %v, %v are %v, %v, %v", plain, numbers, elements, a, u, names)
	}
}

// TestTermsKept: no function changes its arguments, and no result shares memory
// with them.
func TestTermsKept(t *testing.T) {
	algebras := []impl.Algebra{oneOnly, two2(), sum3, square4, stack5, two3()}
	for _, a := range noAlgebras {
		algebras = append(algebras, a)
	}
	terms := append(sampleTerms(), longTerms()...)
	for _, numbers := range noTerms {
		if len(numbers) < 100 {
			terms = append(terms, numbers)
		}
	}
	for _, a := range algebras {
		for _, numbers := range terms {
			checkTermsKept(t, a, numbers, []int{0, max(len(a.Up)-1, 0), 0})
			checkTermsKept(t, a, numbers, []int{0, 7})
		}
	}
	for lines := range slices.Chunk(everyLine(), 25) {
		whole := append(slices.Clone(lines), "", "behind")
		before := slices.Clone(whole)
		for n := range len(lines) + 1 {
			impl.RunDesk(whole[:n])
		}
		if !slices.Equal(whole, before) {
			t.Fatalf("the lines %q are %q", before, whole)
		}
	}
}

// TestTermsApart: what is done to a result changes no later one.
func TestTermsApart(t *testing.T) {
	for _, name := range properties {
		checkFresh(t, "LawOf", func() [][]int { return [][]int{impl.LawOf(name)} })
	}
	for _, numbers := range append(sampleTerms(), longTerms()...) {
		text := plainTermText(numbers)
		checkFresh(t, "ParseTerm", func() [][]int { u, _ := impl.ParseTerm(text); return [][]int{u} })
		for _, a := range []impl.Algebra{oneOnly, two2(), sum3, square4, two3()} {
			checkFresh(t, "RefuteTerm", func() [][]int { names, _ := impl.RefuteTerm(a, numbers); return [][]int{names} })
		}
	}
}
