package tests

import (
	"math"
	"math/bits"
	"slices"
	"testing"

	"loop.example/residuatedtables/impl"
)

// stack5 has four elements in a square below the greatest one, so that it has a
// heart and two greatest filters. The powers of some elements of steps5 stop
// between the greatest and the least one. In late5, a chain in which 1 is right
// below the greatest element, the class of this one has a lesser number than
// others.
var (
	stack5 = impl.Algebra{Up: []int{31, 26, 28, 24, 16}, Times: [][]int{{0, 0, 0, 0, 0}, {0, 1, 0, 1, 1}, {0, 0, 2, 2, 2}, {0, 1, 2, 3, 3}, {0, 1, 2, 3, 4}}}
	steps5 = impl.Algebra{Up: []int{31, 30, 28, 24, 16}, Times: [][]int{{0, 0, 0, 0, 0}, {0, 0, 1, 1, 1}, {0, 1, 2, 2, 2}, {0, 1, 2, 2, 3}, {0, 1, 2, 3, 4}}}
	late5  = impl.Algebra{Up: []int{31, 18, 30, 26, 16}, Times: [][]int{{0, 0, 0, 0, 0}, {0, 1, 2, 3, 1}, {0, 2, 0, 0, 2}, {0, 3, 0, 2, 3}, {0, 1, 2, 3, 4}}}
)

// inSet reports whether a set, a sum of 2 to each, has the element x.
func inSet(set, x int) bool {
	return set>>x&1 == 1
}

// isWithin reports whether another set has all elements of a set.
func isWithin(set, other int) bool {
	return set&^other == 0
}

// noSets are numbers that are no sets of n elements, some of which have the
// right bits for them.
func noSets(n int) []int {
	list := []int{math.MinInt, math.MaxInt, 1 << 32, 1<<32 - 1}
	for set := range 1 << n {
		list = append(list, set-1<<n, set+1<<n, set|1<<62, set|math.MinInt, -1-set-1<<n)
	}
	return list
}

// filterLaw is one of what a filter has, in the document's order.
type filterLaw int

const (
	hasGreatest filterLaw = iota
	hasAbove
	hasProducts
	filterLaws
)

// brokenFilterLaws are the laws of filters that a set of elements breaks.
func brokenFilterLaws(a impl.Algebra, set int) []filterLaw {
	n := len(a.Up)
	var breaks [filterLaws]bool
	breaks[hasGreatest] = !inSet(set, n-1)
	for x := range n {
		for y := range n {
			if inSet(set, x) && below(a.Up, x, y) && !inSet(set, y) {
				breaks[hasAbove] = true
			}
			if inSet(set, x) && inSet(set, y) && !inSet(set, a.Times[x][y]) {
				breaks[hasProducts] = true
			}
		}
	}
	var broken []filterLaw
	for l, is := range breaks {
		if is {
			broken = append(broken, filterLaw(l))
		}
	}
	return broken
}

// plainFilters follow the document's words for FiltersOf.
func plainFilters(a impl.Algebra) []int {
	return slices.DeleteFunc(numbersFrom(0, 1<<len(a.Up)), func(set int) bool { return len(brokenFilterLaws(a, set)) > 0 })
}

// plainPrimes follow the document's words for PrimeFilters.
func plainPrimes(a impl.Algebra) []int {
	return slices.DeleteFunc(plainFilters(a), func(f int) bool {
		for x := range a.Up {
			for y := range a.Up {
				if inSet(f, plainJoin(a.Up, x, y)) && !inSet(f, x) && !inSet(f, y) {
					return true
				}
			}
		}
		return inSet(f, 0)
	})
}

// plainGreatest follow the document's words for GreatestFilters.
func plainGreatest(a impl.Algebra) []int {
	proper := slices.DeleteFunc(plainFilters(a), func(f int) bool { return inSet(f, 0) })
	var greatest []int
	for _, f := range proper {
		others := slices.DeleteFunc(slices.Clone(proper), func(g int) bool { return g == f || !isWithin(f, g) })
		if len(others) == 0 {
			greatest = append(greatest, f)
		}
	}
	return greatest
}

// plainClasses follow the document's words for ClassesOf.
func plainClasses(a impl.Algebra, f int) []int {
	classes := make([]int, len(a.Up))
	for x := range a.Up {
		for !inSet(f, plainNear(a, x, classes[x])) {
			classes[x]++
		}
	}
	return classes
}

// plainPlaces follow the document's words for the second result of QuotientOf,
// and tell how many classes there are.
func plainPlaces(a impl.Algebra, f int) (to []int, count int) {
	classes := plainClasses(a, f)
	greatest := classes[len(classes)-1]
	heads := slices.DeleteFunc(numbersFrom(0, len(classes)), func(x int) bool { return classes[x] != x || x == greatest })
	for _, c := range classes {
		place := slices.Index(heads, c)
		if c == greatest {
			place = len(heads)
		}
		to = append(to, place)
	}
	return to, len(heads) + 1
}

// commonTo are the elements of n that all sets have.
func commonTo(n int, sets []int) int {
	common := 1<<n - 1
	for x := range n {
		if slices.ContainsFunc(sets, func(set int) bool { return !inSet(set, x) }) {
			common &^= 1 << x
		}
	}
	return common
}

// noFilters are sets of elements that are no filters, with the laws that each
// breaks.
var noFilters = []struct {
	a      impl.Algebra
	set    int
	breaks []filterLaw
}{
	{oneOnly, 0, []filterLaw{hasGreatest}},
	{sum3, 0, []filterLaw{hasGreatest}},
	{square4, 0, []filterLaw{hasGreatest}},
	{meet3, 2, []filterLaw{hasGreatest, hasAbove}},
	{meet3, 3, []filterLaw{hasGreatest, hasAbove}},
	{square4, 7, []filterLaw{hasGreatest, hasAbove}},
	{meet3, 5, []filterLaw{hasAbove}},
	{sum3, 5, []filterLaw{hasAbove}},
	{square4, 11, []filterLaw{hasAbove}},
	{stack5, 18, []filterLaw{hasAbove}},
	{sum3, 6, []filterLaw{hasProducts}},
	{square4, 14, []filterLaw{hasProducts}},
	{drastic4, 12, []filterLaw{hasProducts}},
	{drastic4, 14, []filterLaw{hasProducts}},
	{stack5, 30, []filterLaw{hasProducts}},
	{steps5, 24, []filterLaw{hasProducts}},
}

// TestNoFilter checks the fixed result of each function for sets of elements
// that are no filters, each law broken alone among them.
func TestNoFilter(t *testing.T) {
	for _, c := range noFilters {
		if got := brokenFilterLaws(c.a, c.set); !slices.Equal(got, c.breaks) {
			t.Errorf("%d of %v breaks %v", c.set, c.a, got)
		}
		checkNoFilter(t, c.a, c.set)
		if slices.Contains(impl.FiltersOf(c.a), c.set) {
			t.Errorf("FiltersOf(%v) has %d", c.a, c.set)
		}
	}
	for _, a := range everyAlgebra() {
		for set := range 1 << len(a.Up) {
			if len(brokenFilterLaws(a, set)) > 0 {
				checkNoFilter(t, a, set)
			}
		}
	}
}

// checkNoFilter: the results where there is no filter.
func checkNoFilter(t *testing.T, a impl.Algebra, set int) {
	t.Helper()
	if impl.IsFilter(a, set) {
		t.Fatalf("IsFilter(%v, %d)", a, set)
	}
	if got := impl.ClassesOf(a, set); len(got) != 0 {
		t.Fatalf("ClassesOf(%v, %d) = %v", a, set, got)
	}
	if q, to, ok := impl.QuotientOf(a, set); ok || !isZero(q) || len(to) != 0 {
		t.Fatalf("QuotientOf(%v, %d) = %v, %v, %t", a, set, q, to, ok)
	}
}

// TestNoSet checks the fixed result of each function for numbers that are no
// sets of elements, negative ones among them.
func TestNoSet(t *testing.T) {
	for _, a := range append(slices.Clone(everyAlgebra()), oneOnly, two2(), sum3, stack5) {
		for _, no := range noSets(len(a.Up)) {
			checkNoFilter(t, a, no)
			if got := impl.FilterBy(a, no); got != -1 {
				t.Fatalf("FilterBy(%v, %d) = %d", a, no, got)
			}
		}
	}
}

// TestNoAlgebraNoFilters checks the fixed result of each function for what is
// no algebra.
func TestNoAlgebraNoFilters(t *testing.T) {
	for name, a := range noAlgebras {
		for _, set := range append(numbersFrom(-3, 1<<len(a.Up)+3), noSets(len(a.Up))...) {
			checkNoFilter(t, a, set)
			if got := impl.FilterBy(a, set); got != -1 {
				t.Fatalf("%s: FilterBy %d = %d", name, set, got)
			}
		}
		if len(impl.FiltersOf(a)) != 0 || len(impl.PrimeFilters(a)) != 0 || len(impl.GreatestFilters(a)) != 0 {
			t.Errorf("%s: FiltersOf, PrimeFilters, GreatestFilters", name)
		}
		if got := impl.RadicalOf(a); got != -1 {
			t.Errorf("%s: RadicalOf = %d", name, got)
		}
		if impl.IsSimple(a) || impl.IsLocal(a) {
			t.Errorf("%s: IsSimple, IsLocal", name)
		}
		if h, ok := impl.HeartOf(a); ok || h != 0 {
			t.Errorf("%s: HeartOf = %d, %t", name, h, ok)
		}
	}
}

// TestOneElementFilters: the greatest element alone is all elements, so that
// the only filter has the least one, and there is neither a prime filter nor a
// greatest one nor a heart.
func TestOneElementFilters(t *testing.T) {
	a := oneOnly
	if !impl.IsFilter(a, 1) || !slices.Equal(impl.FiltersOf(a), []int{1}) || impl.FilterBy(a, 0) != 1 || impl.FilterBy(a, 1) != 1 {
		t.Errorf("FiltersOf = %v", impl.FiltersOf(a))
	}
	if q, to, ok := impl.QuotientOf(a, 1); !ok || !sameAlgebra(q, oneOnly) || !slices.Equal(to, []int{0}) || !slices.Equal(impl.ClassesOf(a, 1), []int{0}) {
		t.Errorf("QuotientOf = %v, %v", q, to)
	}
	if len(impl.PrimeFilters(a)) != 0 || len(impl.GreatestFilters(a)) != 0 || impl.RadicalOf(a) != 1 || impl.IsSimple(a) || impl.IsLocal(a) {
		t.Error("PrimeFilters")
	}
	if h, ok := impl.HeartOf(a); ok || h != 0 {
		t.Errorf("HeartOf = %d", h)
	}
}

// TestFilterOfAll: by all elements there is one class, and only they have the
// least element.
func TestFilterOfAll(t *testing.T) {
	for _, a := range everyAlgebra() {
		n := len(a.Up)
		all := 1<<n - 1
		if !impl.IsFilter(a, all) || impl.FilterBy(a, all) != all || impl.FilterBy(a, 1) != all || impl.FilterBy(a, 1|1<<(n-1)) != all {
			t.Fatalf("IsFilter(%v, %d)", a, all)
		}
		if got := impl.ClassesOf(a, all); !slices.Equal(got, make([]int, n)) {
			t.Fatalf("ClassesOf(%v, %d) = %v", a, all, got)
		}
		if q, to, ok := impl.QuotientOf(a, all); !ok || !sameAlgebra(q, oneOnly) || !slices.Equal(to, make([]int, n)) {
			t.Fatalf("QuotientOf(%v, %d) = %v, %v", a, all, q, to)
		}
		if slices.Contains(impl.PrimeFilters(a), all) || slices.Contains(impl.GreatestFilters(a), all) {
			t.Fatalf("PrimeFilters(%v) = %v", a, impl.PrimeFilters(a))
		}
	}
}

// TestGreatestAlone: by the greatest element alone each element is a class. The
// quotient is the algebra.
func TestGreatestAlone(t *testing.T) {
	for _, a := range everyAlgebra() {
		alone := 1 << (len(a.Up) - 1)
		own := numbersFrom(0, len(a.Up))
		if impl.FilterBy(a, 0) != alone || impl.FilterBy(a, alone) != alone || !slices.Equal(impl.ClassesOf(a, alone), own) {
			t.Fatalf("ClassesOf(%v, %d) = %v", a, alone, impl.ClassesOf(a, alone))
		}
		if q, to, ok := impl.QuotientOf(a, alone); !ok || !sameAlgebra(q, a) || !slices.Equal(to, own) {
			t.Fatalf("QuotientOf(%v, %d) = %v, %v", a, alone, q, to)
		}
	}
}

// TestFiltersPlain holds IsFilter, FiltersOf and FilterBy against the words of
// the document in all algebras.
func TestFiltersPlain(t *testing.T) {
	for _, a := range everyAlgebra() {
		want := plainFilters(a)
		if got := impl.FiltersOf(a); !slices.Equal(got, want) {
			t.Fatalf("FiltersOf(%v) = %v", a, got)
		}
		for set := range 1 << len(a.Up) {
			if got := impl.IsFilter(a, set); got != slices.Contains(want, set) {
				t.Fatalf("IsFilter(%v, %d) = %t", a, set, got)
			}
			by := impl.FilterBy(a, set)
			if !slices.Contains(want, by) || !isWithin(set, by) {
				t.Fatalf("FilterBy(%v, %d) = %d", a, set, by)
			}
			for _, f := range want {
				if f != by && isWithin(set, f) && bits.OnesCount(uint(f)) <= bits.OnesCount(uint(by)) {
					t.Fatalf("FilterBy(%v, %d) = %d, but %d", a, set, by, f)
				}
			}
		}
	}
	for _, c := range []struct {
		a    impl.Algebra
		want []int
	}{{two2(), []int{2, 3}}, {sum3, []int{4, 7}}, {meet3, []int{4, 6, 7}}, {drastic4, []int{8, 15}}, {square4, []int{8, 10, 12, 15}}, {stack5, []int{16, 24, 26, 28, 31}}, {steps5, []int{16, 28, 31}}, {late5, []int{16, 18, 31}}} {
		if got := impl.FiltersOf(c.a); !slices.Equal(got, c.want) {
			t.Errorf("FiltersOf(%v) = %v", c.a, got)
		}
	}
	if impl.FilterBy(steps5, 8) != 28 || impl.FilterBy(steps5, 4) != 28 || impl.FilterBy(steps5, 10) != 31 || impl.FilterBy(stack5, 8) != 24 || impl.FilterBy(stack5, 6) != 31 {
		t.Error("FilterBy")
	}
}

// TestClassesPlain holds ClassesOf and QuotientOf against the words of the
// document in all algebras.
func TestClassesPlain(t *testing.T) {
	moved := 0
	for _, a := range everyAlgebra() {
		for _, f := range plainFilters(a) {
			want := plainClasses(a, f)
			if got := impl.ClassesOf(a, f); !slices.Equal(got, want) {
				t.Fatalf("ClassesOf(%v, %d) = %v", a, f, got)
			}
			if slices.Max(want) != want[len(want)-1] {
				moved++
			}
			checkQuotient(t, a, f)
		}
	}
	if moved == 0 {
		t.Error("the class of the greatest element is the last one by its number everywhere")
	}
	if q, to, _ := impl.QuotientOf(meet3, 6); !sameAlgebra(q, two2()) || !slices.Equal(to, []int{0, 1, 1}) {
		t.Errorf("QuotientOf = %v, %v", q, to)
	}
	if q, to, _ := impl.QuotientOf(square4, 12); !sameAlgebra(q, two2()) || !slices.Equal(to, []int{0, 0, 1, 1}) {
		t.Errorf("QuotientOf = %v, %v", q, to)
	}
	if q, to, _ := impl.QuotientOf(stack5, 24); !sameAlgebra(q, square4) || !slices.Equal(to, []int{0, 1, 2, 3, 3}) {
		t.Errorf("QuotientOf = %v, %v", q, to)
	}
	if q, to, _ := impl.QuotientOf(steps5, 28); !sameAlgebra(q, sum3) || !slices.Equal(to, []int{0, 1, 2, 2, 2}) {
		t.Errorf("QuotientOf = %v, %v", q, to)
	}
	q, to, _ := impl.QuotientOf(late5, 18)
	want := impl.Algebra{Up: []int{15, 14, 12, 8}, Times: [][]int{{0, 0, 0, 0}, {0, 0, 0, 1}, {0, 0, 1, 2}, {0, 1, 2, 3}}}
	if !sameAlgebra(q, want) || !slices.Equal(to, []int{0, 3, 1, 2, 3}) || !slices.Equal(impl.ClassesOf(late5, 18), []int{0, 1, 2, 3, 1}) {
		t.Errorf("QuotientOf = %v, %v", q, to)
	}
}

// checkQuotient: QuotientOf is an algebra of the classes, where each is, and in
// which what is asked of two classes is what is asked of any of their elements.
func checkQuotient(t *testing.T, a impl.Algebra, f int) {
	t.Helper()
	q, to, ok := impl.QuotientOf(a, f)
	places, count := plainPlaces(a, f)
	if !ok || !slices.Equal(to, places) || len(q.Up) != count || !impl.ValidAlgebra(q) {
		t.Fatalf("QuotientOf(%v, %d) = %v, %v, %t", a, f, q, to, ok)
	}
	for x := range a.Up {
		if (to[x] == count-1) != inSet(f, x) {
			t.Fatalf("QuotientOf(%v, %d) = %v, %v", a, f, q, to)
		}
		for y := range a.Up {
			if below(q.Up, to[x], to[y]) != inSet(f, plainImply(a, x, y)) || q.Times[to[x]][to[y]] != to[a.Times[x][y]] {
				t.Fatalf("QuotientOf(%v, %d) = %v, %v at %d, %d", a, f, q, to, x, y)
			}
			if plainImply(q, to[x], to[y]) != to[plainImply(a, x, y)] || plainMeet(q.Up, to[x], to[y]) != to[plainMeet(a.Up, x, y)] || plainJoin(q.Up, to[x], to[y]) != to[plainJoin(a.Up, x, y)] {
				t.Fatalf("QuotientOf(%v, %d) = %v, %v does not keep %d, %d", a, f, q, to, x, y)
			}
		}
	}
}

// TestKindsPlain holds PrimeFilters, GreatestFilters, RadicalOf, IsSimple,
// IsLocal and HeartOf against the words of the document in all algebras.
func TestKindsPlain(t *testing.T) {
	simple, local, unlikePrime := 0, 0, 0
	for _, a := range everyAlgebra() {
		n := len(a.Up)
		primes, greatest := plainPrimes(a), plainGreatest(a)
		if got := impl.PrimeFilters(a); !slices.Equal(got, primes) {
			t.Fatalf("PrimeFilters(%v) = %v", a, got)
		}
		if got := impl.GreatestFilters(a); !slices.Equal(got, greatest) {
			t.Fatalf("GreatestFilters(%v) = %v", a, got)
		}
		if got := impl.RadicalOf(a); got != commonTo(n, greatest) {
			t.Fatalf("RadicalOf(%v) = %d", a, got)
		}
		isSimple, isLocal := len(plainFilters(a)) == 2, len(greatest) == 1
		if impl.IsSimple(a) != isSimple || impl.IsLocal(a) != isLocal {
			t.Fatalf("IsSimple, IsLocal(%v) = %t, %t", a, !isSimple, !isLocal)
		}
		checkHeart(t, a)
		if isSimple {
			simple++
		}
		if isLocal {
			local++
		}
		if len(primes) != len(greatest) && len(primes) != len(plainFilters(a))-1 {
			unlikePrime++
		}
	}
	if simple == 0 || local <= simple || local >= len(everyAlgebra())-1 || unlikePrime == 0 {
		t.Errorf("%d simple, %d local, %d with some prime filters", simple, local, unlikePrime)
	}
}

// checkHeart: HeartOf is the only filter that the document's words fit.
func checkHeart(t *testing.T, a impl.Algebra) {
	t.Helper()
	others := slices.DeleteFunc(plainFilters(a), func(f int) bool { return bits.OnesCount(uint(f)) < 2 })
	var hearts []int
	for _, h := range others {
		if !slices.ContainsFunc(others, func(f int) bool { return !isWithin(h, f) }) {
			hearts = append(hearts, h)
		}
	}
	h, ok := impl.HeartOf(a)
	if ok != (len(hearts) == 1) || ok && h != hearts[0] || !ok && h != 0 || len(hearts) > 1 {
		t.Fatalf("HeartOf(%v) = %d, %t, want %v", a, h, ok, hearts)
	}
}

// TestKindsFixed: prime and greatest filters, radicals and hearts of some
// algebras by hand.
func TestKindsFixed(t *testing.T) {
	for _, c := range []struct {
		name             string
		a                impl.Algebra
		primes, greatest []int
		radical          int
		simple, local    bool
		heart            int
	}{
		{"two", two2(), []int{2}, []int{2}, 2, true, true, 3},
		{"sums", sum3, []int{4}, []int{4}, 4, true, true, 7},
		{"meets", meet3, []int{4, 6}, []int{6}, 6, false, true, 6},
		{"drastic", drastic4, []int{8}, []int{8}, 8, true, true, 15},
		{"square", square4, []int{10, 12}, []int{10, 12}, 8, false, false, 0},
		{"square below", stack5, []int{16, 26, 28}, []int{26, 28}, 24, false, false, 24},
		{"steps", steps5, []int{16, 28}, []int{28}, 28, false, true, 28},
		{"late", late5, []int{16, 18}, []int{18}, 18, false, true, 18},
	} {
		if got := impl.PrimeFilters(c.a); !slices.Equal(got, c.primes) {
			t.Errorf("%s: PrimeFilters = %v", c.name, got)
		}
		if got := impl.GreatestFilters(c.a); !slices.Equal(got, c.greatest) {
			t.Errorf("%s: GreatestFilters = %v", c.name, got)
		}
		if got := impl.RadicalOf(c.a); got != c.radical {
			t.Errorf("%s: RadicalOf = %d", c.name, got)
		}
		if impl.IsSimple(c.a) != c.simple || impl.IsLocal(c.a) != c.local {
			t.Errorf("%s: IsSimple, IsLocal", c.name)
		}
		if h, ok := impl.HeartOf(c.a); h != c.heart || ok != (c.heart != 0) {
			t.Errorf("%s: HeartOf = %d, %t", c.name, h, ok)
		}
	}
}

// TestNoPrimeFilters: prime filters and greatest ones are missing in algebras of
// one element alone.
func TestNoPrimeFilters(t *testing.T) {
	for _, a := range everyAlgebra() {
		none := len(a.Up) == 1
		if (len(impl.PrimeFilters(a)) == 0) != none || (len(impl.GreatestFilters(a)) == 0) != none {
			t.Fatalf("PrimeFilters(%v) = %v", a, impl.PrimeFilters(a))
		}
	}
}

// eachCross calls do with each two algebras that have pairs, and with that of
// the pairs.
func eachCross(t *testing.T, do func(a, b, c impl.Algebra)) {
	t.Helper()
	for _, a := range everyAlgebra() {
		for _, b := range everyAlgebra() {
			if len(a.Up)*len(b.Up) > 6 {
				continue
			}
			c, ok := impl.CrossAlgebras(a, b)
			if !ok {
				t.Fatalf("CrossAlgebras(%v, %v)", a, b)
			}
			do(a, b, c)
		}
	}
}

// TestHeartsMissing: pairs of algebras of more than one element have no heart,
// since the filters of both parts have only the greatest element in common.
func TestHeartsMissing(t *testing.T) {
	missing := 0
	eachCross(t, func(a, b, c impl.Algebra) {
		if len(a.Up) == 1 || len(b.Up) == 1 {
			return
		}
		missing++
		if h, ok := impl.HeartOf(c); ok || h != 0 {
			t.Fatalf("HeartOf(%v) = %d, %t", c, h, ok)
		}
	})
	if missing != 5 {
		t.Errorf("%d pairs of algebras of more than one element", missing)
	}
}

// P18: PowerOf DepthOf is the least element and of one less it is not, and the
// least element is in FilterBy the element exactly if there is one.
func TestPromise18(t *testing.T) {
	for _, a := range everyAlgebra() {
		for x := range a.Up {
			k, ok := impl.DepthOf(a, x)
			if ok && (impl.PowerOf(a, x, k) != 0 || k > 0 && impl.PowerOf(a, x, k-1) == 0) {
				t.Fatalf("DepthOf(%v, %d) = %d", a, x, k)
			}
			if by := impl.FilterBy(a, 1<<x); inSet(by, 0) != ok {
				t.Fatalf("FilterBy(%v, %d) = %d", a, 1<<x, by)
			}
		}
	}
}

// P23: SumChain is a chain, involutive, divisible and prelinear, and of at least
// two elements simple.
func TestPromise23(t *testing.T) {
	for n := 1; n <= 6; n++ {
		a, ok := impl.SumChain(n)
		if !ok || !impl.IsChain(a.Up) {
			t.Fatalf("SumChain(%d) = %v", n, a)
		}
		for _, p := range []string{"involutive", "divisible", "prelinear"} {
			if !impl.HasProperty(p, a) {
				t.Errorf("SumChain(%d) is not %s", n, p)
			}
		}
		if impl.IsSimple(a) != (n > 1) {
			t.Errorf("IsSimple(SumChain(%d)) = %t", n, n == 1)
		}
	}
}

// P25: CrossAlgebras has each property exactly if both have it, and as many
// filters as the product.
func TestPromise25(t *testing.T) {
	eachCross(t, func(a, b, c impl.Algebra) {
		for _, p := range properties {
			if impl.HasProperty(p, c) != (impl.HasProperty(p, a) && impl.HasProperty(p, b)) {
				t.Fatalf("CrossAlgebras(%v, %v) is not as %s as both", a, b, p)
			}
		}
		if got := len(impl.FiltersOf(c)); got != len(impl.FiltersOf(a))*len(impl.FiltersOf(b)) {
			t.Fatalf("CrossAlgebras(%v, %v) has %d filters", a, b, got)
		}
	})
}

// P26: IsFilter holds exactly if FilterBy is the set.
func TestPromise26(t *testing.T) {
	for _, a := range everyAlgebra() {
		for set := range 1 << len(a.Up) {
			if impl.IsFilter(a, set) != (impl.FilterBy(a, set) == set) {
				t.Fatalf("FilterBy(%v, %d) = %d", a, set, impl.FilterBy(a, set))
			}
		}
	}
}

// P27: what two of FiltersOf both have is one, and the greatest element alone
// and all elements are two of them.
func TestPromise27(t *testing.T) {
	for _, a := range everyAlgebra() {
		n := len(a.Up)
		filters := impl.FiltersOf(a)
		for _, f := range filters {
			for _, g := range filters {
				if !slices.Contains(filters, f&g) || !impl.IsFilter(a, f&g) {
					t.Fatalf("FiltersOf(%v) = %v", a, filters)
				}
			}
		}
		if filters[0] != 1<<(n-1) || filters[len(filters)-1] != 1<<n-1 {
			t.Fatalf("FiltersOf(%v) = %v", a, filters)
		}
		for i := 1; i < len(filters); i++ {
			if filters[i-1] >= filters[i] {
				t.Fatalf("FiltersOf(%v) = %v", a, filters)
			}
		}
	}
}

// P28: FilterBy of one element has exactly those that are at least some PowerOf
// it.
func TestPromise28(t *testing.T) {
	for _, a := range everyAlgebra() {
		for x := range a.Up {
			by := impl.FilterBy(a, 1<<x)
			for y := range a.Up {
				is := slices.ContainsFunc(numbersFrom(0, 21), func(k int) bool { return impl.IsBelow(a.Up, impl.PowerOf(a, x, k), y) })
				if inSet(by, y) != is {
					t.Fatalf("FilterBy(%v, %d) = %d", a, 1<<x, by)
				}
			}
		}
	}
}

// P29: ClassesOf two elements are the same exactly if NearOf them is in the
// filter, and of the greatest element those are in the filter.
func TestPromise29(t *testing.T) {
	for _, a := range everyAlgebra() {
		for _, f := range impl.FiltersOf(a) {
			classes := impl.ClassesOf(a, f)
			if len(classes) != len(a.Up) {
				t.Fatalf("ClassesOf(%v, %d) = %v", a, f, classes)
			}
			for x, c := range classes {
				if (c == classes[len(classes)-1]) != inSet(f, x) || c > x || classes[c] != c {
					t.Fatalf("ClassesOf(%v, %d) = %v", a, f, classes)
				}
				for y, d := range classes {
					if (c == d) != inSet(f, impl.NearOf(a, x, y)) {
						t.Fatalf("ClassesOf(%v, %d) = %v", a, f, classes)
					}
				}
			}
		}
	}
}

// P31: all of PrimeFilters of a prelinear algebra have only the greatest element
// in common, and their quotients are chains.
func TestPromise31(t *testing.T) {
	ofChains := 0
	for _, a := range everyAlgebra() {
		if !impl.HasProperty("prelinear", a) {
			continue
		}
		primes := impl.PrimeFilters(a)
		if commonTo(len(a.Up), primes) != 1<<(len(a.Up)-1) {
			t.Fatalf("PrimeFilters(%v) = %v", a, primes)
		}
		for _, f := range primes {
			if q, _, ok := impl.QuotientOf(a, f); !ok || !impl.IsChain(q.Up) {
				t.Fatalf("QuotientOf(%v, %d) = %v", a, f, q)
			}
		}
		if !impl.IsChain(a.Up) {
			ofChains++
		}
	}
	if ofChains == 0 {
		t.Error("all prelinear algebras are chains")
	}
}

// P32: GreatestFilters are among PrimeFilters, and their quotients are simple.
func TestPromise32(t *testing.T) {
	for _, a := range everyAlgebra() {
		primes := impl.PrimeFilters(a)
		for _, f := range impl.GreatestFilters(a) {
			if q, _, ok := impl.QuotientOf(a, f); !ok || !impl.IsSimple(q) || !slices.Contains(primes, f) {
				t.Fatalf("QuotientOf(%v, %d) = %v", a, f, q)
			}
		}
	}
}

// P33: an element is in RadicalOf exactly if NotOf each PowerOf it has a
// DepthOf.
func TestPromise33(t *testing.T) {
	for _, a := range everyAlgebra() {
		radical := impl.RadicalOf(a)
		for x := range a.Up {
			end := true
			for k := range 21 {
				_, ok := impl.DepthOf(a, impl.NotOf(a, impl.PowerOf(a, x, k)))
				end = end && ok
			}
			if inSet(radical, x) != end {
				t.Fatalf("RadicalOf(%v) = %d, but %d", a, radical, x)
			}
		}
	}
}

// P34: IsSimple holds exactly if there are two elements or more, and each but
// the greatest one has a DepthOf.
func TestPromise34(t *testing.T) {
	for _, a := range everyAlgebra() {
		end := len(a.Up) > 1
		for x := range len(a.Up) - 1 {
			_, ok := impl.DepthOf(a, x)
			end = end && ok
		}
		if impl.IsSimple(a) != end {
			t.Fatalf("IsSimple(%v) = %t", a, !end)
		}
	}
}

// P35: IsLocal holds exactly if there are two elements or more, and each one or
// NotOf it has a DepthOf.
func TestPromise35(t *testing.T) {
	for _, a := range everyAlgebra() {
		end := len(a.Up) > 1
		for x := range a.Up {
			_, ok := impl.DepthOf(a, x)
			_, okNot := impl.DepthOf(a, impl.NotOf(a, x))
			end = end && (ok || okNot)
		}
		if impl.IsLocal(a) != end {
			t.Fatalf("IsLocal(%v) = %t", a, !end)
		}
	}
}

// P36: HeartOf is in each filter of more than one element, there is one in each
// chain of at least two, and a prelinear algebra with one is a chain.
func TestPromise36(t *testing.T) {
	beside := 0
	for _, a := range everyAlgebra() {
		heart, ok := impl.HeartOf(a)
		isChain := impl.IsChain(a.Up)
		if !ok {
			if isChain && len(a.Up) > 1 || heart != 0 {
				t.Fatalf("HeartOf(%v) = %d", a, heart)
			}
			continue
		}
		if impl.HasProperty("prelinear", a) && !isChain {
			t.Fatalf("HeartOf(%v) = %d", a, heart)
		}
		if !isChain {
			beside++
		}
		if !impl.IsFilter(a, heart) || bits.OnesCount(uint(heart)) < 2 {
			t.Fatalf("HeartOf(%v) = %d", a, heart)
		}
		for _, f := range impl.FiltersOf(a) {
			if bits.OnesCount(uint(f)) > 1 && !isWithin(heart, f) {
				t.Fatalf("HeartOf(%v) = %d, but %d", a, heart, f)
			}
		}
	}
	if beside == 0 {
		t.Error("only chains have hearts")
	}
}

// TestFiltersSteady: the order in which filters are found is never that of a
// map.
func TestFiltersSteady(t *testing.T) {
	for range 200 {
		if got := impl.GreatestFilters(square4); !slices.Equal(got, []int{10, 12}) {
			t.Fatalf("GreatestFilters = %v", got)
		}
		if got := impl.GreatestFilters(stack5); !slices.Equal(got, []int{26, 28}) {
			t.Fatalf("GreatestFilters = %v", got)
		}
		if impl.RadicalOf(stack5) != 24 || impl.IsLocal(stack5) {
			t.Fatal("RadicalOf, IsLocal")
		}
	}
}

// TestFiltersKept: no function changes its arguments, and no result shares
// memory with them.
func TestFiltersKept(t *testing.T) {
	arguments := slices.Clone(everyAlgebra())
	for _, a := range noAlgebras {
		arguments = append(arguments, a)
	}
	for _, plain := range arguments {
		a, kept := guardedAlgebra(plain)
		for set := -1; set <= 1<<len(a.Up); set++ {
			impl.IsFilter(a, set)
			impl.FilterBy(a, set)
			scribble(impl.ClassesOf(a, set))
			q, to, _ := impl.QuotientOf(a, set)
			scribble(to)
			scribbleAll(q)
		}
		impl.RadicalOf(a)
		impl.IsSimple(a)
		impl.IsLocal(a)
		impl.HeartOf(a)
		scribble(impl.FiltersOf(a))
		scribble(impl.PrimeFilters(a))
		scribble(impl.GreatestFilters(a))
		if !kept() {
			t.Fatalf("the argument %v is %v", plain, a)
		}
	}
}

// TestFiltersApart: no two lists of a quotient share memory, and what is done to
// a result changes no later one.
func TestFiltersApart(t *testing.T) {
	for _, a := range []impl.Algebra{oneOnly, two2(), meet3, square4, stack5, steps5, late5} {
		for _, f := range impl.FiltersOf(a) {
			quotient := func() [][]int {
				q, to, _ := impl.QuotientOf(a, f)
				return append(listsOf(q), to)
			}
			if !areApart(quotient) {
				t.Errorf("QuotientOf(%v, %d): two lists share memory", a, f)
			}
			checkFresh(t, "QuotientOf", quotient)
			checkFresh(t, "ClassesOf", func() [][]int { return [][]int{impl.ClassesOf(a, f)} })
		}
		checkFresh(t, "FiltersOf", func() [][]int { return [][]int{impl.FiltersOf(a)} })
		checkFresh(t, "PrimeFilters", func() [][]int { return [][]int{impl.PrimeFilters(a)} })
		checkFresh(t, "GreatestFilters", func() [][]int { return [][]int{impl.GreatestFilters(a)} })
	}
}

// checkFresh: what is done to a result changes no later one.
func checkFresh(t *testing.T, name string, call func() [][]int) {
	t.Helper()
	before := call()
	for _, list := range call() {
		scribble(list)
	}
	if after := call(); !slices.EqualFunc(after, before, slices.Equal[[]int]) {
		t.Errorf("%s = %v later, %v before", name, after, before)
	}
}
