package tests

import (
	"math/bits"
	"runtime"
	"slices"
	"testing"

	"loop.example/residuatedtables/impl"
)

// In swapped4 the element 2 is below the element 1. In steps4 the powers of 2
// stop at 1. In below5, a square below the greatest element, and in below6, with
// one more element between 0 and the square, all other products are 0.
var (
	swapped4 = impl.Algebra{Up: swapped, Times: [][]int{{0, 0, 0, 0}, {0, 1, 2, 1}, {0, 2, 2, 2}, {0, 1, 2, 3}}}
	steps4   = impl.Algebra{Up: []int{15, 14, 12, 8}, Times: [][]int{{0, 0, 0, 0}, {0, 1, 1, 1}, {0, 1, 1, 2}, {0, 1, 2, 3}}}
	below5   = impl.Algebra{Up: []int{31, 26, 28, 24, 16}, Times: [][]int{{0, 0, 0, 0, 0}, {0, 0, 0, 0, 1}, {0, 0, 0, 0, 2}, {0, 0, 0, 0, 3}, {0, 1, 2, 3, 4}}}
	below6   = impl.Algebra{Up: []int{63, 62, 52, 56, 48, 32}, Times: [][]int{{0, 0, 0, 0, 0, 0}, {0, 0, 0, 0, 0, 1}, {0, 0, 0, 0, 0, 2}, {0, 0, 0, 0, 0, 3}, {0, 0, 0, 0, 0, 4}, {0, 1, 2, 3, 4, 5}}}
)

// noMaps are elements of b for those of a that are no map, with the laws that
// each breaks. That of the greatest element can't be broken alone: it is what
// an element implies of itself.
var noMaps = []struct {
	a, b   impl.Algebra
	f      []int
	breaks []mapLaw
}{
	{oneOnly, two2(), []int{1}, []mapLaw{keepsLeast}},
	{sum3, sum3, []int{2, 2, 2}, []mapLaw{keepsLeast}},
	{square4, square4, []int{3, 3, 3, 3}, []mapLaw{keepsLeast}},
	{oneOnly, two2(), []int{0}, []mapLaw{keepsGreatest, keepsImplications}},
	{sum3, meet3, []int{0, 0, 0}, []mapLaw{keepsGreatest, keepsImplications}},
	{meet3, steps4, []int{0, 2, 3}, []mapLaw{keepsProducts}},
	{meet3, steps5, []int{0, 3, 4}, []mapLaw{keepsProducts}},
	{sum3, two2(), []int{0, 0, 1}, []mapLaw{keepsImplications}},
	{meet3, two2(), []int{0, 0, 1}, []mapLaw{keepsImplications}},
	{below5, below6, []int{0, 2, 3, 4, 5}, []mapLaw{keepsMeets}},
	{square4, stack5, []int{0, 1, 2, 4}, []mapLaw{keepsJoins}},
	{two2(), sum3, []int{1, 2}, []mapLaw{keepsLeast, keepsProducts}},
	{sum3, two2(), []int{0, 1, 1}, []mapLaw{keepsProducts, keepsImplications}},
	{square4, two2(), []int{0, 0, 0, 1}, []mapLaw{keepsImplications, keepsJoins}},
	{below5, sum3, []int{0, 1, 1, 1, 2}, []mapLaw{keepsImplications, keepsMeets}},
	{two2(), two2(), []int{1, 0}, []mapLaw{keepsLeast, keepsGreatest, keepsProducts, keepsImplications, keepsMeets, keepsJoins}},
}

// checkNoMap: the results where there is no map.
func checkNoMap(t *testing.T, a, b impl.Algebra, f []int) {
	t.Helper()
	if impl.IsMap(a, b, f) {
		t.Fatalf("IsMap(%v, %v, %v)", a, b, f)
	}
	if got := impl.KernelOf(a, b, f); got != -1 {
		t.Fatalf("KernelOf(%v, %v, %v) = %d", a, b, f, got)
	}
	if got := impl.ImageOf(a, b, f); got != -1 {
		t.Fatalf("ImageOf(%v, %v, %v) = %d", a, b, f, got)
	}
}

// TestNoMap checks the fixed result of each function for elements that are no
// map, each law broken alone among them.
func TestNoMap(t *testing.T) {
	alone := map[mapLaw]bool{}
	for _, c := range noMaps {
		if got := brokenMapLaws(operationsOf(c.a), operationsOf(c.b), c.f); !slices.Equal(got, c.breaks) {
			t.Errorf("%v of %v to %v breaks %v", c.f, c.a, c.b, got)
		}
		checkNoMap(t, c.a, c.b, c.f)
		if slices.ContainsFunc(impl.MapsOf(c.a, c.b), func(f []int) bool { return slices.Equal(f, c.f) }) {
			t.Errorf("MapsOf(%v, %v) has %v", c.a, c.b, c.f)
		}
		if len(c.breaks) == 1 {
			alone[c.breaks[0]] = true
		}
	}
	if len(alone) != int(mapLaws)-1 || alone[keepsGreatest] {
		t.Errorf("the laws %v are broken alone", alone)
	}
}

// TestNoListOfMap checks the fixed result of each function for lists that are
// too short, too long, or have numbers of no element.
func TestNoListOfMap(t *testing.T) {
	for _, p := range everyMap() {
		if len(p.maps) == 0 || len(p.a.Up) > 3 && !sameAlgebra(p.a, p.b) {
			continue
		}
		for _, no := range noListsLike(p.maps[0], len(p.b.Up)) {
			checkNoMap(t, p.a, p.b, no)
		}
	}
}

// TestMapsSmall holds IsMap against the words of the document for all lists of
// elements where both algebras have at most 4.
func TestMapsSmall(t *testing.T) {
	for _, p := range everyPair() {
		n, m := len(p.a.Up), len(p.b.Up)
		if n > 4 || m > 4 {
			continue
		}
		ops, others := operationsOf(p.a), operationsOf(p.b)
		choose(slices.Repeat([][]int{numbersFrom(0, m)}, n), func(f []int) {
			if got := impl.IsMap(p.a, p.b, f); got != plainMap(ops, others, f) {
				t.Fatalf("IsMap(%v, %v, %v) = %t", p.a, p.b, f, got)
			}
		})
	}
}

// TestMapsPlain holds MapsOf, KernelOf, ImageOf and SameBy against the words of
// the document for every pair of algebras.
func TestMapsPlain(t *testing.T) {
	none, many, apart := 0, 0, 0
	for _, p := range everyMap() {
		n, m := len(p.a.Up), len(p.b.Up)
		want := plainMaps(p.a, p.b)
		if !slices.EqualFunc(p.maps, want, slices.Equal[[]int]) {
			t.Fatalf("MapsOf(%v, %v) = %v", p.a, p.b, p.maps)
		}
		var first []int
		for _, f := range want {
			kernel := setFrom(n, func(x int) bool { return f[x] == m-1 })
			if got := impl.KernelOf(p.a, p.b, f); got != kernel {
				t.Fatalf("KernelOf(%v, %v, %v) = %d", p.a, p.b, f, got)
			}
			image := setFrom(m, func(y int) bool { return slices.Contains(f, y) })
			if got := impl.ImageOf(p.a, p.b, f); got != image {
				t.Fatalf("ImageOf(%v, %v, %v) = %d", p.a, p.b, f, got)
			}
			if first == nil && n == m && image == 1<<m-1 {
				first = f
			}
		}
		got, ok := impl.SameBy(p.a, p.b)
		if ok != (first != nil) || !slices.Equal(got, first) {
			t.Fatalf("SameBy(%v, %v) = %v, %t", p.a, p.b, got, ok)
		}
		switch {
		case len(want) == 0:
			none++
		case len(want) > 1:
			many++
		}
		if first != nil && !sameAlgebra(p.a, p.b) {
			apart++
		}
	}
	if none == 0 || many == 0 || apart == 0 {
		t.Errorf("%d pairs without maps, %d with many, %d that are the same under other names", none, many, apart)
	}
}

// TestMapsFixed: maps of some algebras by hand.
func TestMapsFixed(t *testing.T) {
	for _, c := range []struct {
		a, b impl.Algebra
		want [][]int
	}{
		{two2(), two2(), [][]int{{0, 1}}},
		{two2(), square4, [][]int{{0, 3}}},
		{sum3, sum3, [][]int{{0, 1, 2}}},
		{meet3, meet3, [][]int{{0, 1, 2}, {0, 2, 2}}},
		{sum3, meet3, nil},
		{meet3, sum3, [][]int{{0, 2, 2}}},
		{meet3, two2(), [][]int{{0, 1, 1}}},
		{square4, two2(), [][]int{{0, 0, 1, 1}, {0, 1, 0, 1}}},
		{square4, square4, [][]int{{0, 0, 3, 3}, {0, 1, 2, 3}, {0, 2, 1, 3}, {0, 3, 0, 3}}},
		{two3(), sum3, [][]int{{0, 0, 0, 2, 2, 2}, {0, 1, 2, 0, 1, 2}}},
		{sum3, sums6(), nil},
		{swapped4, meet3, [][]int{{0, 2, 1, 2}, {0, 2, 2, 2}}},
	} {
		if got := impl.MapsOf(c.a, c.b); !slices.EqualFunc(got, c.want, slices.Equal[[]int]) {
			t.Errorf("MapsOf(%v, %v) = %v", c.a, c.b, got)
		}
	}
	if impl.KernelOf(square4, two2(), []int{0, 0, 1, 1}) != 12 || impl.ImageOf(square4, two2(), []int{0, 0, 1, 1}) != 3 || impl.ImageOf(square4, square4, []int{0, 3, 0, 3}) != 9 || impl.KernelOf(meet3, sum3, []int{0, 2, 2}) != 6 || impl.ImageOf(meet3, sum3, []int{0, 2, 2}) != 5 {
		t.Error("KernelOf, ImageOf")
	}
}

// TestSameByFixed: the same algebra under other names, algebras of other sizes,
// and algebras with maps both ways that are not the same.
func TestSameByFixed(t *testing.T) {
	meet4 := impl.Algebra{Up: []int{15, 14, 12, 8}, Times: [][]int{{0, 0, 0, 0}, {0, 1, 1, 1}, {0, 1, 2, 2}, {0, 1, 2, 3}}}
	for _, two := range [][2]impl.Algebra{{meet4, swapped4}, {swapped4, meet4}} {
		if f, ok := impl.SameBy(two[0], two[1]); !ok || !slices.Equal(f, []int{0, 2, 1, 3}) {
			t.Errorf("SameBy(%v, %v) = %v, %t", two[0], two[1], f, ok)
		}
	}
	for _, two := range [][2]impl.Algebra{{meet3, sum3}, {sum3, meet3}, {two2(), oneOnly}, {oneOnly, two2()}, {two2(), square4}, {square4, two2()}, {meet4, square4}, {meet3, meet4}, {stack5, steps5}, {two3(), sums6()}} {
		if f, ok := impl.SameBy(two[0], two[1]); ok || f != nil {
			t.Errorf("SameBy(%v, %v) = %v, %t", two[0], two[1], f, ok)
		}
	}
	if f, ok := impl.SameBy(square4, square4); !ok || !slices.Equal(f, []int{0, 1, 2, 3}) {
		t.Errorf("SameBy = %v", f)
	}
}

// TestMapsToOne: to the algebra of one element there is one map, whose kernel is
// all; of this one there is none to another one, as the least element is the
// greatest one.
func TestMapsToOne(t *testing.T) {
	for _, a := range append(slices.Clone(everyAlgebra()), two3(), sums6()) {
		n := len(a.Up)
		f := make([]int, n)
		if got := impl.MapsOf(a, oneOnly); len(got) != 1 || !slices.Equal(got[0], f) {
			t.Fatalf("MapsOf(%v, one) = %v", a, got)
		}
		if !impl.IsMap(a, oneOnly, f) || impl.KernelOf(a, oneOnly, f) != 1<<n-1 || impl.ImageOf(a, oneOnly, f) != 1 {
			t.Fatalf("IsMap(%v, one, %v)", a, f)
		}
		if n == 1 {
			continue
		}
		if got := impl.MapsOf(oneOnly, a); len(got) != 0 {
			t.Fatalf("MapsOf(one, %v) = %v", a, got)
		}
		for y := range n {
			checkNoMap(t, oneOnly, a, []int{y})
		}
		for _, two := range [][2]impl.Algebra{{a, oneOnly}, {oneOnly, a}} {
			if f, ok := impl.SameBy(two[0], two[1]); ok || f != nil {
				t.Fatalf("SameBy(%v, %v) = %v", two[0], two[1], f)
			}
		}
	}
	if f, ok := impl.SameBy(oneOnly, oneOnly); !ok || !slices.Equal(f, []int{0}) {
		t.Errorf("SameBy = %v", f)
	}
}

// TestNoAlgebraNoMaps checks the fixed result of each function for what is no
// algebra, in the first place, in the second one, and in both.
func TestNoAlgebraNoMaps(t *testing.T) {
	for name, a := range noAlgebras {
		lists := [][]int{nil, {}, {0}, {0, 1}, {0, 2}, {1, 1}, {0, 1, 2}, {0, 2, 2}, {0, 1, 1}, {0, 1, 2, 3}, {0, 3, 3, 3}, {0, 0, 1, 1}, make([]int, len(a.Up)), numbersFrom(0, len(a.Up)), slices.Repeat([]int{len(a.Up) - 1}, len(a.Up))}
		for _, b := range []impl.Algebra{a, oneOnly, two2(), sum3, meet3, square4, stack5, sums6()} {
			for _, two := range [][2]impl.Algebra{{a, b}, {b, a}} {
				if got := impl.MapsOf(two[0], two[1]); len(got) != 0 {
					t.Errorf("%s: MapsOf = %v", name, got)
				}
				if f, ok := impl.SameBy(two[0], two[1]); ok || f != nil {
					t.Errorf("%s: SameBy = %v", name, f)
				}
				for _, f := range lists {
					checkNoMap(t, two[0], two[1], f)
				}
			}
		}
		for _, j := range lists {
			checkNoNucleus(t, a, j)
		}
		if len(impl.PartsOf(a)) != 0 || len(impl.NucleiOf(a)) != 0 || len(impl.TwiceNot(a)) != 0 {
			t.Errorf("%s: PartsOf, NucleiOf, TwiceNot", name)
		}
	}
}

// TestPartsPlain holds PartsOf against the words of the document in all
// algebras.
func TestPartsPlain(t *testing.T) {
	for _, a := range append(slices.Clone(everyAlgebra()), two3(), sums6()) {
		if got := impl.PartsOf(a); !slices.Equal(got, plainParts(a)) {
			t.Fatalf("PartsOf(%v) = %v", a, got)
		}
	}
	for _, c := range []struct {
		a    impl.Algebra
		want []int
	}{
		{oneOnly, []int{1}},
		{two2(), []int{3}},
		{sum3, []int{5, 7}},
		{meet3, []int{5, 7}},
		{square4, []int{9, 15}},
		{drastic4, []int{9, 13, 15}},
		{swapped4, []int{9, 11, 13, 15}},
		{below5, []int{17, 25, 27, 29, 31}},
		{sums6(), []int{33, 63}},
		{two3(), []int{33, 45, 63}},
	} {
		if got := impl.PartsOf(c.a); !slices.Equal(got, c.want) {
			t.Errorf("PartsOf(%v) = %v", c.a, got)
		}
	}
}

// TestPartsOfTwo: the least and the greatest element are a part of two elements
// wherever they are two, and the only one of two.
func TestPartsOfTwo(t *testing.T) {
	for _, a := range everyAlgebra() {
		var small []int
		for _, part := range impl.PartsOf(a) {
			if bits.OnesCount(uint(part)) <= 2 {
				small = append(small, part)
			}
		}
		if want := 1 | 1<<(len(a.Up)-1); !slices.Equal(small, []int{want}) {
			t.Fatalf("PartsOf(%v) has %v", a, small)
		}
	}
}

// TestPartsNeedAll: for each operation there are sets that are closed under the
// other ones alone and are no part.
func TestPartsNeedAll(t *testing.T) {
	var missed [mapLaws]int
	for _, a := range everyAlgebra() {
		ops := operationsOf(a)
		parts := impl.PartsOf(a)
		for set := range 1 << len(a.Up) {
			if !inSet(set, 0) || !inSet(set, len(a.Up)-1) {
				continue
			}
			var open []mapLaw
			for l := keepsProducts; l < mapLaws; l++ {
				if !isClosedUnder(ops[l], set) {
					open = append(open, l)
				}
			}
			if slices.Contains(parts, set) != (len(open) == 0) {
				t.Fatalf("PartsOf(%v) = %v", a, parts)
			}
			if len(open) == 1 {
				missed[open[0]]++
			}
		}
	}
	for l := keepsProducts; l < mapLaws; l++ {
		if missed[l] == 0 {
			t.Errorf("no set is open under the operation %d alone", l)
		}
	}
}

// isClosedUnder reports whether a set has with two elements the one of a table.
func isClosedUnder(table [][]int, set int) bool {
	for x, row := range table {
		for y, z := range row {
			if inSet(set, x) && inSet(set, y) && !inSet(set, z) {
				return false
			}
		}
	}
	return true
}

// noNuclei are elements for all elements that are no nucleus, with the laws that
// each breaks.
var noNuclei = []struct {
	a      impl.Algebra
	j      []int
	breaks []nucleusLaw
}{
	{two2(), []int{0, 0}, []nucleusLaw{isAtLeast}},
	{sum3, []int{0, 0, 2}, []nucleusLaw{isAtLeast}},
	{square4, []int{0, 0, 0, 0}, []nucleusLaw{isAtLeast}},
	{meet3, []int{2, 1, 2}, []nucleusLaw{goesUpward}},
	{square4, []int{1, 1, 2, 3}, []nucleusLaw{goesUpward}},
	{meet3, []int{1, 2, 2}, []nucleusLaw{isItsOwn}},
	{drastic4, []int{1, 2, 2, 3}, []nucleusLaw{isItsOwn}},
	{sum3, []int{0, 2, 2}, []nucleusLaw{overProducts}},
	{square4, []int{0, 1, 3, 3}, []nucleusLaw{overProducts}},
	{square4, []int{0, 3, 2, 3}, []nucleusLaw{overProducts}},
	{two2(), []int{1, 0}, []nucleusLaw{isAtLeast, goesUpward, isItsOwn}},
}

// checkNoNucleus: the results where there is no nucleus.
func checkNoNucleus(t *testing.T, a impl.Algebra, j []int) {
	t.Helper()
	if impl.IsNucleus(a, j) {
		t.Fatalf("IsNucleus(%v, %v)", a, j)
	}
	if fixed, ok := impl.FixedBy(a, j); ok || !isZero(fixed) {
		t.Fatalf("FixedBy(%v, %v) = %v, %t", a, j, fixed, ok)
	}
}

// TestNoNucleus checks the fixed result of each function for elements that are
// no nucleus, each law broken alone among them.
func TestNoNucleus(t *testing.T) {
	alone := map[nucleusLaw]bool{}
	for _, c := range noNuclei {
		if got := brokenNucleusLaws(c.a, c.j); !slices.Equal(got, c.breaks) {
			t.Errorf("%v of %v breaks %v", c.j, c.a, got)
		}
		checkNoNucleus(t, c.a, c.j)
		if slices.ContainsFunc(impl.NucleiOf(c.a), func(j []int) bool { return slices.Equal(j, c.j) }) {
			t.Errorf("NucleiOf(%v) has %v", c.a, c.j)
		}
		if len(c.breaks) == 1 {
			alone[c.breaks[0]] = true
		}
	}
	if len(alone) != int(nucleusLaws) {
		t.Errorf("the laws %v are broken alone", alone)
	}
}

// TestNoListOfNucleus checks the fixed result of each function for lists that
// are too short, too long, or have numbers of no element.
func TestNoListOfNucleus(t *testing.T) {
	for _, a := range append(slices.Clone(everyAlgebra()), two3(), sums6()) {
		for _, j := range [][]int{numbersFrom(0, len(a.Up)), impl.TwiceNot(a), slices.Repeat([]int{len(a.Up) - 1}, len(a.Up))} {
			for _, no := range noListsLike(j, len(a.Up)) {
				checkNoNucleus(t, a, no)
			}
		}
	}
}

// TestNucleiSmall holds IsNucleus and FixedBy against the words of the document
// for all lists of elements of algebras of at most 4.
func TestNucleiSmall(t *testing.T) {
	for _, a := range everyAlgebra() {
		n := len(a.Up)
		if n > 4 {
			continue
		}
		choose(slices.Repeat([][]int{numbersFrom(0, n)}, n), func(j []int) {
			if len(brokenNucleusLaws(a, j)) > 0 {
				checkNoNucleus(t, a, j)
			} else if !impl.IsNucleus(a, j) {
				t.Fatalf("IsNucleus(%v, %v)", a, j)
			}
		})
	}
}

// TestNucleiPlain holds NucleiOf, IsNucleus, TwiceNot and FixedBy against the
// words of the document in all algebras.
func TestNucleiPlain(t *testing.T) {
	least, first := 0, 0
	for _, a := range append(slices.Clone(everyAlgebra()), two3(), sums6()) {
		want := plainNuclei(a)
		if got := impl.NucleiOf(a); !slices.EqualFunc(got, want, slices.Equal[[]int]) {
			t.Fatalf("NucleiOf(%v) = %v", a, got)
		}
		for x, got := range impl.TwiceNot(a) {
			if got != plainNot(a, plainNot(a, x)) {
				t.Fatalf("TwiceNot(%v) = %v", a, impl.TwiceNot(a))
			}
		}
		for _, j := range want {
			fixed, isFirst := plainFixed(a, j)
			got, ok := impl.FixedBy(a, j)
			if !impl.IsNucleus(a, j) || ok != isFirst || !sameAlgebra(got, fixed) {
				t.Fatalf("FixedBy(%v, %v) = %v, %t", a, j, got, ok)
			}
			if !isFirst {
				least++
			} else if ownOf(j)[0] > 0 {
				first++
			}
		}
	}
	if least == 0 || first == 0 {
		t.Errorf("%d nuclei with the least element behind another one, %d without the first element", least, first)
	}
}

// TestNucleiFixed: nuclei and what they leave by hand.
func TestNucleiFixed(t *testing.T) {
	for _, c := range []struct {
		a    impl.Algebra
		want [][]int
	}{
		{oneOnly, [][]int{{0}}},
		{two2(), [][]int{{0, 1}, {1, 1}}},
		{sum3, [][]int{{0, 1, 2}, {1, 1, 2}, {2, 2, 2}}},
		{meet3, [][]int{{0, 1, 2}, {0, 2, 2}, {1, 1, 2}, {2, 2, 2}}},
		{square4, [][]int{{0, 1, 2, 3}, {1, 1, 3, 3}, {2, 3, 2, 3}, {3, 3, 3, 3}}},
		{swapped4, [][]int{{0, 1, 2, 3}, {0, 1, 1, 3}, {0, 3, 2, 3}, {0, 3, 3, 3}, {1, 1, 1, 3}, {2, 1, 2, 3}, {2, 3, 2, 3}, {3, 3, 3, 3}}},
	} {
		want := slices.Clone(c.want)
		slices.SortFunc(want, slices.Compare[[]int])
		if got := impl.NucleiOf(c.a); !slices.EqualFunc(got, want, slices.Equal[[]int]) {
			t.Errorf("NucleiOf(%v) = %v", c.a, got)
		}
	}
	for _, c := range []struct {
		a    impl.Algebra
		j    []int
		want impl.Algebra
	}{
		{sum3, []int{1, 1, 2}, two2()},
		{meet3, []int{0, 2, 2}, two2()},
		{meet3, []int{1, 1, 2}, two2()},
		{square4, []int{1, 1, 3, 3}, two2()},
		{square4, []int{0, 1, 2, 3}, square4},
		{swapped4, []int{0, 1, 1, 3}, meet3},
		{swapped4, []int{0, 3, 2, 3}, meet3},
		{swapped4, []int{1, 1, 1, 3}, two2()},
		{swapped4, []int{2, 3, 2, 3}, two2()},
		{swapped4, []int{0, 1, 2, 3}, swapped4},
	} {
		if got, ok := impl.FixedBy(c.a, c.j); !ok || !sameAlgebra(got, c.want) {
			t.Errorf("FixedBy(%v, %v) = %v, %t", c.a, c.j, got, ok)
		}
	}
	// It leaves 1, 2 and 3, of which 2 is the least one.
	if got, ok := impl.FixedBy(swapped4, []int{2, 1, 2, 3}); ok || !isZero(got) || !impl.IsNucleus(swapped4, []int{2, 1, 2, 3}) {
		t.Errorf("FixedBy = %v, %t", got, ok)
	}
	if !slices.Equal(impl.TwiceNot(drastic4), []int{0, 2, 2, 3}) || !slices.Equal(impl.TwiceNot(stack5), []int{0, 1, 2, 4, 4}) || !slices.Equal(impl.TwiceNot(oneOnly), []int{0}) {
		t.Errorf("TwiceNot = %v", impl.TwiceNot(drastic4))
	}
}

// TestNucleiLeaveOne: the greatest element for all leaves the algebra of one
// element, and no other nucleus does.
func TestNucleiLeaveOne(t *testing.T) {
	for _, a := range append(slices.Clone(everyAlgebra()), two3(), sums6()) {
		last := len(a.Up) - 1
		greatest := slices.Repeat([]int{last}, last+1)
		if got, ok := impl.FixedBy(a, greatest); !ok || !sameAlgebra(got, oneOnly) || !impl.IsNucleus(a, greatest) {
			t.Fatalf("FixedBy(%v, %v) = %v, %t", a, greatest, got, ok)
		}
		for _, j := range impl.NucleiOf(a) {
			if got, ok := impl.FixedBy(a, j); ok && len(got.Up) == 1 && !slices.Equal(j, greatest) {
				t.Fatalf("FixedBy(%v, %v) = %v", a, j, got)
			}
		}
	}
}

// P20: SharpOf are among FixedOf, NotOf each is one, and they are one of
// PartsOf.
func TestPromise20(t *testing.T) {
	for _, a := range everyAlgebra() {
		sharp, fixed := impl.SharpOf(a), impl.FixedOf(a)
		for _, x := range sharp {
			if !slices.Contains(fixed, x) || !slices.Contains(sharp, impl.NotOf(a, x)) {
				t.Fatalf("SharpOf(%v) = %v", a, sharp)
			}
		}
		set := setFrom(len(a.Up), func(x int) bool { return slices.Contains(sharp, x) })
		if !slices.Contains(impl.PartsOf(a), set) {
			t.Fatalf("SharpOf(%v) = %v is none of %v", a, sharp, impl.PartsOf(a))
		}
	}
}

// P30: QuotientOf is an algebra, the classes are a map to it, and its kernel is
// the filter.
func TestPromise30(t *testing.T) {
	for _, a := range everyAlgebra() {
		for _, f := range impl.FiltersOf(a) {
			q, to, ok := impl.QuotientOf(a, f)
			if !ok || !impl.ValidAlgebra(q) || !impl.IsMap(a, q, to) || impl.KernelOf(a, q, to) != f || impl.ImageOf(a, q, to) != 1<<len(q.Up)-1 {
				t.Fatalf("QuotientOf(%v, %d) = %v, %v", a, f, q, to)
			}
		}
	}
}

// P37: where IsMap holds the map keeps NotOf and NearOf, and its kernel is a
// filter.
func TestPromise37(t *testing.T) {
	eachMap(func(a, b impl.Algebra, f []int) {
		for x := range f {
			if f[impl.NotOf(a, x)] != impl.NotOf(b, f[x]) {
				t.Fatalf("the map %v of %v to %v does not keep NotOf %d", f, a, b, x)
			}
			for y := range f {
				if f[impl.NearOf(a, x, y)] != impl.NearOf(b, f[x], f[y]) {
					t.Fatalf("the map %v of %v to %v does not keep NearOf %d, %d", f, a, b, x, y)
				}
			}
		}
		if kernel := impl.KernelOf(a, b, f); !impl.IsFilter(a, kernel) {
			t.Fatalf("KernelOf(%v, %v, %v) = %d", a, b, f, kernel)
		}
	})
}

// isAscending reports whether lists stand by the place where two differ first.
func isAscending(lists [][]int) bool {
	for i := 1; i < len(lists); i++ {
		if slices.Compare(lists[i-1], lists[i]) >= 0 {
			return false
		}
	}
	return true
}

// P38: each of MapsOf is one, none comes twice, and of an algebra to itself the
// elements in order are one.
func TestPromise38(t *testing.T) {
	for _, p := range everyMap() {
		if !isAscending(p.maps) || slices.ContainsFunc(p.maps, func(f []int) bool { return !impl.IsMap(p.a, p.b, f) }) {
			t.Fatalf("MapsOf(%v, %v) = %v", p.a, p.b, p.maps)
		}
	}
	for _, a := range everyAlgebra() {
		own := numbersFrom(0, len(a.Up))
		if maps := impl.MapsOf(a, a); !slices.ContainsFunc(maps, func(f []int) bool { return slices.Equal(f, own) }) {
			t.Fatalf("MapsOf(%v) to itself = %v", a, maps)
		}
	}
}

// P39: QuotientOf KernelOf has as many elements as ImageOf.
func TestPromise39(t *testing.T) {
	eachMap(func(a, b impl.Algebra, f []int) {
		q, _, ok := impl.QuotientOf(a, impl.KernelOf(a, b, f))
		if image := impl.ImageOf(a, b, f); !ok || len(q.Up) != bits.OnesCount(uint(image)) {
			t.Fatalf("the map %v of %v to %v has the image %d and the quotient %v", f, a, b, image, q)
		}
	})
}

// P40: ImageOf is one of PartsOf.
func TestPromise40(t *testing.T) {
	eachMap(func(a, b impl.Algebra, f []int) {
		if image := impl.ImageOf(a, b, f); !slices.Contains(impl.PartsOf(b), image) {
			t.Fatalf("ImageOf(%v, %v, %v) = %d", a, b, f, image)
		}
	})
}

// P41: SameBy is a map with the greatest element alone as kernel, and there is
// one the other way, too.
func TestPromise41(t *testing.T) {
	same := 0
	for _, p := range everyPair() {
		f, ok := impl.SameBy(p.a, p.b)
		_, back := impl.SameBy(p.b, p.a)
		if ok != back || !ok && f != nil {
			t.Fatalf("SameBy(%v, %v) = %v, %t", p.a, p.b, f, ok)
		}
		if !ok {
			continue
		}
		same++
		if !impl.IsMap(p.a, p.b, f) || impl.KernelOf(p.a, p.b, f) != 1<<(len(p.a.Up)-1) || impl.ImageOf(p.a, p.b, f) != 1<<len(p.b.Up)-1 {
			t.Fatalf("SameBy(%v, %v) = %v", p.a, p.b, f)
		}
	}
	if same <= len(everyAlgebra()) || same == len(everyPair()) {
		t.Errorf("%d of %d pairs are the same", same, len(everyPair()))
	}
}

// P42: what two of PartsOf both have is one, and the least and the greatest
// element alone and all are two of them.
func TestPromise42(t *testing.T) {
	for _, a := range everyAlgebra() {
		n := len(a.Up)
		parts := impl.PartsOf(a)
		for _, p := range parts {
			for _, q := range parts {
				if !slices.Contains(parts, p&q) {
					t.Fatalf("PartsOf(%v) = %v", a, parts)
				}
			}
		}
		if parts[0] != 1|1<<(n-1) || parts[len(parts)-1] != 1<<n-1 || !slices.IsSorted(parts) || len(slices.Compact(parts)) != len(parts) {
			t.Fatalf("PartsOf(%v) = %v", a, parts)
		}
	}
}

// eachNucleus calls do with each nucleus of all algebras, as NucleiOf tells
// them.
func eachNucleus(do func(a impl.Algebra, j []int)) {
	for _, a := range append(slices.Clone(everyAlgebra()), two3(), sums6()) {
		for _, j := range impl.NucleiOf(a) {
			do(a, j)
		}
	}
}

// P43: where IsNucleus holds what an element implies of one that is its own is
// its own.
func TestPromise43(t *testing.T) {
	eachNucleus(func(a impl.Algebra, j []int) {
		own := ownOf(j)
		for x := range j {
			for _, y := range own {
				if !slices.Contains(own, impl.ImplyOf(a, x, y)) {
					t.Fatalf("the nucleus %v of %v lacks what %d implies of %d", j, a, x, y)
				}
			}
		}
	})
}

// P44: each of NucleiOf is one, none comes twice, and the elements themselves,
// the greatest one for all, and TwiceNot are three of them.
func TestPromise44(t *testing.T) {
	for _, a := range everyAlgebra() {
		n := len(a.Up)
		nuclei := impl.NucleiOf(a)
		if !isAscending(nuclei) || slices.ContainsFunc(nuclei, func(j []int) bool { return !impl.IsNucleus(a, j) }) {
			t.Fatalf("NucleiOf(%v) = %v", a, nuclei)
		}
		for _, want := range [][]int{numbersFrom(0, n), slices.Repeat([]int{n - 1}, n), impl.TwiceNot(a)} {
			if !slices.ContainsFunc(nuclei, func(j []int) bool { return slices.Equal(j, want) }) {
				t.Fatalf("NucleiOf(%v) lacks %v", a, want)
			}
		}
	}
}

// P45: TwiceNot is a nucleus, the elements themselves exactly if the algebra is
// involutive, and what it leaves is involutive.
func TestPromise45(t *testing.T) {
	for _, a := range everyAlgebra() {
		twice := impl.TwiceNot(a)
		isOwn := slices.Equal(twice, numbersFrom(0, len(a.Up)))
		if !impl.IsNucleus(a, twice) || isOwn != impl.HasProperty("involutive", a) {
			t.Fatalf("TwiceNot(%v) = %v", a, twice)
		}
		if left, ok := impl.FixedBy(a, twice); !ok || !impl.HasProperty("involutive", left) {
			t.Fatalf("FixedBy(%v, %v) = %v", a, twice, left)
		}
	}
}

// P46: FixedBy is an algebra of the elements that are their own, and
// implications are as before.
func TestPromise46(t *testing.T) {
	eachNucleus(func(a impl.Algebra, j []int) {
		own := ownOf(j)
		fixed, ok := impl.FixedBy(a, j)
		if ok != impl.IsBelow(a.Up, own[0], j[0]) {
			t.Fatalf("FixedBy(%v, %v) = %v, %t", a, j, fixed, ok)
		}
		if !ok {
			return
		}
		if !impl.ValidAlgebra(fixed) || len(fixed.Up) != len(own) {
			t.Fatalf("FixedBy(%v, %v) = %v", a, j, fixed)
		}
		for p, x := range own {
			for q, y := range own {
				if own[impl.ImplyOf(fixed, p, q)] != impl.ImplyOf(a, x, y) || impl.IsBelow(fixed.Up, p, q) != impl.IsBelow(a.Up, x, y) || own[fixed.Times[p][q]] != j[a.Times[x][y]] {
					t.Fatalf("FixedBy(%v, %v) = %v at %d, %d", a, j, fixed, x, y)
				}
			}
		}
	})
}

// TestMapsSteady: the order in which lists are found is the same each time, and
// nothing is left running behind a call.
func TestMapsSteady(t *testing.T) {
	before := runtime.NumGoroutine()
	for range 500 {
		if got := impl.MapsOf(square4, square4); !slices.EqualFunc(got, [][]int{{0, 0, 3, 3}, {0, 1, 2, 3}, {0, 2, 1, 3}, {0, 3, 0, 3}}, slices.Equal[[]int]) {
			t.Fatalf("MapsOf = %v", got)
		}
		if got := impl.NucleiOf(meet3); !slices.EqualFunc(got, [][]int{{0, 1, 2}, {0, 2, 2}, {1, 1, 2}, {2, 2, 2}}, slices.Equal[[]int]) {
			t.Fatalf("NucleiOf = %v", got)
		}
		impl.SameBy(square4, square4)
		impl.MapsOf(sum3, meet3)
	}
	for tries := 0; runtime.NumGoroutine() > before; tries++ {
		if tries == 1000000 {
			t.Fatalf("%d goroutines, %d before", runtime.NumGoroutine(), before)
		}
		runtime.Gosched()
	}
}

// scribbleLists writes over lists and over all room in them.
func scribbleLists(lists [][]int) {
	for _, list := range lists {
		scribble(list)
	}
	lists = lists[:cap(lists)]
	for i := range lists {
		lists[i] = []int{spare}
	}
}

// TestMapsKept: no function changes its arguments, and no result shares memory
// with them.
func TestMapsKept(t *testing.T) {
	arguments := slices.Clone(everyAlgebra())
	for _, a := range noAlgebras {
		arguments = append(arguments, a)
	}
	for _, plain := range arguments {
		a, kept := guardedAlgebra(plain)
		for _, other := range []impl.Algebra{plain, meet3, square4, oneOnly, two3()} {
			b, otherKept := guardedAlgebra(other)
			for _, two := range [][2]impl.Algebra{{a, b}, {b, a}, {a, a}} {
				checkMapsKept(t, two[0], two[1])
			}
			if !kept() || !otherKept() {
				t.Fatalf("the arguments %v, %v are %v, %v", plain, other, a, b)
			}
		}
		checkNucleiKept(t, a)
		scribble(impl.PartsOf(a))
		scribble(impl.TwiceNot(a))
		if !kept() {
			t.Fatalf("the argument %v is %v", plain, a)
		}
	}
}

// checkMapsKept: no list that is a map, or nearly one, is changed.
func checkMapsKept(t *testing.T, a, b impl.Algebra) {
	t.Helper()
	maps := impl.MapsOf(a, b)
	for _, f := range append(slices.Clone(maps), make([]int, len(a.Up)), numbersFrom(0, len(a.Up)), nil) {
		list, kept := guarded(f)
		impl.IsMap(a, b, list)
		impl.KernelOf(a, b, list)
		impl.ImageOf(a, b, list)
		if !kept() {
			t.Fatalf("the list %v is %v", f, list)
		}
	}
	same, _ := impl.SameBy(a, b)
	scribble(same)
	scribbleLists(maps)
}

// checkNucleiKept: no list that is a nucleus, or nearly one, is changed.
func checkNucleiKept(t *testing.T, a impl.Algebra) {
	t.Helper()
	nuclei := impl.NucleiOf(a)
	for _, j := range append(slices.Clone(nuclei), make([]int, len(a.Up)), nil) {
		list, kept := guarded(j)
		impl.IsNucleus(a, list)
		fixed, _ := impl.FixedBy(a, list)
		scribbleAll(fixed)
		if !kept() {
			t.Fatalf("the list %v is %v", j, list)
		}
	}
	scribbleLists(nuclei)
}

// TestMapsApart: no two lists of a result share memory, and what is done to a
// result changes no later one.
func TestMapsApart(t *testing.T) {
	algebras := []impl.Algebra{oneOnly, two2(), sum3, meet3, square4, drastic4, swapped4, stack5, late5, two3()}
	for _, a := range algebras {
		for _, b := range algebras {
			maps := func() [][]int { return impl.MapsOf(a, b) }
			if !areApart(maps) {
				t.Errorf("MapsOf(%v, %v): two lists share memory", a, b)
			}
			checkFresh(t, "MapsOf", maps)
			checkFresh(t, "SameBy", func() [][]int { f, _ := impl.SameBy(a, b); return [][]int{f} })
		}
		nuclei := func() [][]int { return impl.NucleiOf(a) }
		if !areApart(nuclei) {
			t.Errorf("NucleiOf(%v): two lists share memory", a)
		}
		checkFresh(t, "NucleiOf", nuclei)
		for _, j := range nuclei() {
			left := func() [][]int { fixed, _ := impl.FixedBy(a, j); return listsOf(fixed) }
			if !areApart(left) {
				t.Errorf("FixedBy(%v, %v): two lists share memory", a, j)
			}
			checkFresh(t, "FixedBy", left)
		}
		checkFresh(t, "PartsOf", func() [][]int { return [][]int{impl.PartsOf(a)} })
		checkFresh(t, "TwiceNot", func() [][]int { return [][]int{impl.TwiceNot(a)} })
	}
}
