package tests

import (
	"slices"
	"sync"

	"loop.example/residuatedtables/impl"
)

// mapLaw is one of what a map keeps, in the document's order.
type mapLaw int

const (
	keepsLeast mapLaw = iota
	keepsGreatest
	keepsProducts
	keepsImplications
	keepsMeets
	keepsJoins
	mapLaws
)

// operationsOf are the products, implications, meets and joins of an algebra,
// found by the document's words, each at the law that speaks of it.
func operationsOf(a impl.Algebra) [mapLaws][][]int {
	var ops [mapLaws][][]int
	ops[keepsProducts] = a.Times
	ops[keepsImplications] = zeros(len(a.Up))
	for x := range a.Up {
		for y := range a.Up {
			ops[keepsImplications][x][y] = plainImply(a, x, y)
		}
	}
	ops[keepsMeets], ops[keepsJoins] = plainTables(a.Up)
	return ops
}

// brokenMapLaws are the laws of maps that elements of b for those of a break,
// told from the operations of both.
func brokenMapLaws(a, b [mapLaws][][]int, f []int) []mapLaw {
	n, m := len(f), len(b[keepsProducts])
	var breaks [mapLaws]bool
	breaks[keepsLeast] = f[0] != 0
	breaks[keepsGreatest] = f[n-1] != m-1
	for l := keepsProducts; l < mapLaws; l++ {
		for x := range n {
			for y := range n {
				breaks[l] = breaks[l] || f[a[l][x][y]] != b[l][f[x]][f[y]]
			}
		}
	}
	var broken []mapLaw
	for l, is := range breaks {
		if is {
			broken = append(broken, mapLaw(l))
		}
	}
	return broken
}

// plainMap follows the document's words for IsMap, for elements of b for those
// of a.
func plainMap(a, b [mapLaws][][]int, f []int) bool {
	if f[0] != 0 || f[len(f)-1] != len(b[keepsProducts])-1 {
		return false
	}
	for l := keepsProducts; l < mapLaws; l++ {
		for x := range f {
			for y := range f {
				if f[a[l][x][y]] != b[l][f[x]][f[y]] {
					return false
				}
			}
		}
	}
	return true
}

// plainMaps follow the document's words for MapsOf.
func plainMaps(a, b impl.Algebra) [][]int {
	n, m := len(a.Up), len(b.Up)
	ops, others := operationsOf(a), operationsOf(b)
	choices := slices.Repeat([][]int{numbersFrom(0, m)}, n)
	if n > 1 {
		choices[0], choices[n-1] = []int{0}, []int{m - 1}
	}
	var maps [][]int
	choose(choices, func(f []int) {
		if plainMap(ops, others, f) {
			maps = append(maps, slices.Clone(f))
		}
	})
	return maps
}

// plainParts follow the document's words for PartsOf.
func plainParts(a impl.Algebra) []int {
	ops := operationsOf(a)
	return slices.DeleteFunc(numbersFrom(0, 1<<len(a.Up)), func(set int) bool {
		for l := keepsProducts; l < mapLaws; l++ {
			for x := range a.Up {
				for y := range a.Up {
					if inSet(set, x) && inSet(set, y) && !inSet(set, ops[l][x][y]) {
						return true
					}
				}
			}
		}
		return !inSet(set, 0) || !inSet(set, len(a.Up)-1)
	})
}

// nucleusLaw is one of what a nucleus has, in the document's order.
type nucleusLaw int

const (
	isAtLeast nucleusLaw = iota
	goesUpward
	isItsOwn
	overProducts
	nucleusLaws
)

// brokenNucleusLaws are the laws of nuclei that elements for all elements break.
func brokenNucleusLaws(a impl.Algebra, j []int) []nucleusLaw {
	var breaks [nucleusLaws]bool
	for x := range j {
		breaks[isAtLeast] = breaks[isAtLeast] || !below(a.Up, x, j[x])
		breaks[isItsOwn] = breaks[isItsOwn] || j[j[x]] != j[x]
		for y := range j {
			breaks[goesUpward] = breaks[goesUpward] || below(a.Up, x, y) && !below(a.Up, j[x], j[y])
			breaks[overProducts] = breaks[overProducts] || !below(a.Up, a.Times[j[x]][j[y]], j[a.Times[x][y]])
		}
	}
	var broken []nucleusLaw
	for l, is := range breaks {
		if is {
			broken = append(broken, nucleusLaw(l))
		}
	}
	return broken
}

// plainNuclei follow the document's words for NucleiOf. Those of 6 elements are
// sought among the lists that are at least the elements.
func plainNuclei(a impl.Algebra) [][]int {
	n := len(a.Up)
	choices := slices.Repeat([][]int{numbersFrom(0, n)}, n)
	if n > 5 {
		for x := range n {
			choices[x] = slices.DeleteFunc(numbersFrom(0, n), func(y int) bool { return !below(a.Up, x, y) })
		}
	}
	var nuclei [][]int
	choose(choices, func(j []int) {
		if len(brokenNucleusLaws(a, j)) == 0 {
			nuclei = append(nuclei, slices.Clone(j))
		}
	})
	return nuclei
}

// ownOf are the elements that a list sends to themselves.
func ownOf(j []int) []int {
	return slices.DeleteFunc(numbersFrom(0, len(j)), func(x int) bool { return j[x] != x })
}

// plainFixed follows the document's words for FixedBy. That the least element is
// the first one is left to the law of the algebra.
func plainFixed(a impl.Algebra, j []int) (impl.Algebra, bool) {
	own := ownOf(j)
	fixed := impl.Algebra{Up: make([]int, len(own)), Times: zeros(len(own))}
	for p, x := range own {
		for q, y := range own {
			if below(a.Up, x, y) {
				fixed.Up[p] |= 1 << q
			}
			fixed.Times[p][q] = slices.Index(own, j[a.Times[x][y]])
		}
	}
	if !plainAlgebra(fixed) {
		return impl.Algebra{}, false
	}
	return fixed, true
}

// setFrom is the sum of 2 to each element that passes, of n.
func setFrom(n int, pass func(x int) bool) int {
	set := 0
	for x := range n {
		if pass(x) {
			set |= 1 << x
		}
	}
	return set
}

// noListsLike are lists that are no n elements of size, most of which are
// nearly the list, which has n.
func noListsLike(list []int, size int) [][]int {
	n := len(list)
	no := [][]int{nil, {}, list[:n-1], append(slices.Clone(list), 0), append(slices.Clone(list), list[n-1]), append(slices.Clone(list), -1), append(slices.Clone(list), list...), make([]int, 70)}
	for i := range n {
		no = append(no, slices.Delete(slices.Clone(list), i, i+1))
		for _, wrong := range append([]int{size, list[i] - size, list[i] + size, list[i] | 1<<32}, outside...) {
			changed := slices.Clone(list)
			changed[i] = wrong
			no = append(no, changed)
		}
	}
	return slices.DeleteFunc(no, func(l []int) bool { return isListOf(n, size, l) })
}

// isListOf reports whether a list has n elements of size.
func isListOf(n, size int, list []int) bool {
	return len(list) == n && !slices.ContainsFunc(list, func(x int) bool { return x < 0 || x >= size })
}

// pairOfAlgebras is one algebra and one that it may be sent to.
type pairOfAlgebras struct {
	a, b impl.Algebra
}

// everyPair are pairs of algebras: all those of at most 4 elements, each algebra
// with itself, each one with some others in both places, and with what filters
// leave of it.
var everyPair = sync.OnceValue(func() []pairOfAlgebras {
	var pairs []pairOfAlgebras
	others := []impl.Algebra{oneOnly, two2(), sum3, meet3, square4, stack5, steps5, late5, sums6(), two3()}
	for _, a := range everyAlgebra() {
		pairs = append(pairs, pairOfAlgebras{a, a})
		for _, b := range others {
			pairs = append(pairs, pairOfAlgebras{a, b}, pairOfAlgebras{b, a})
		}
		for _, b := range everyAlgebra() {
			if len(a.Up) <= 4 && len(b.Up) <= 4 {
				pairs = append(pairs, pairOfAlgebras{a, b})
			}
		}
		for _, f := range plainFilters(a) {
			b, _, _ := impl.QuotientOf(a, f)
			pairs = append(pairs, pairOfAlgebras{a, b}, pairOfAlgebras{b, a})
		}
	}
	return pairs
})

// sums6 is the longest chain of sums.
func sums6() impl.Algebra {
	a := impl.Algebra{Up: []int{63, 62, 60, 56, 48, 32}, Times: zeros(6)}
	for x := range 6 {
		for y := range 6 {
			a.Times[x][y] = max(0, x+y-5)
		}
	}
	return a
}

// two3 is the algebra of the pairs of two elements and of three ones of a chain
// of sums.
func two3() impl.Algebra {
	return impl.Algebra{Up: []int{63, 54, 36, 56, 48, 32}, Times: [][]int{{0, 0, 0, 0, 0, 0}, {0, 0, 1, 0, 0, 1}, {0, 1, 2, 0, 1, 2}, {0, 0, 0, 3, 3, 3}, {0, 0, 1, 3, 3, 4}, {0, 1, 2, 3, 4, 5}}}
}

// mapsOfPair are a pair of algebras and all maps of one to the other.
type mapsOfPair struct {
	pairOfAlgebras
	maps [][]int
}

// everyMap are the maps of every pair of algebras, as MapsOf tells them.
var everyMap = sync.OnceValue(func() []mapsOfPair {
	var all []mapsOfPair
	for _, p := range everyPair() {
		all = append(all, mapsOfPair{p, impl.MapsOf(p.a, p.b)})
	}
	return all
})

// eachMap calls do with each map of every pair of algebras.
func eachMap(do func(a, b impl.Algebra, f []int)) {
	for _, p := range everyMap() {
		for _, f := range p.maps {
			do(p.a, p.b, slices.Clone(f))
		}
	}
}
