package tests

import (
	"reflect"
	"slices"
	"sync"

	"loop.example/residuatedtables/impl"
)

// plainTables are the meets and joins of a lattice, found by the document's
// words.
func plainTables(up []int) (meets, joins [][]int) {
	meets, joins = zeros(len(up)), zeros(len(up))
	for x := range up {
		for y := range up {
			meets[x][y], joins[x][y] = plainMeet(up, x, y), plainJoin(up, x, y)
		}
	}
	return meets, joins
}

// zeros is a square of zeros.
func zeros(n int) [][]int {
	rows := make([][]int, n)
	for x := range rows {
		rows[x] = make([]int, n)
	}
	return rows
}

// law is one of the laws of products in an algebra, in the document's order.
type law int

const (
	sameBothWays law = iota
	sameForThree
	withGreatest
	withLeast
	overJoins
	laws
)

// brokenLaws are the laws that products of elements break on a lattice with
// these joins.
func brokenLaws(joins, times [][]int) []law {
	n := len(joins)
	var breaks [laws]bool
	for x := range n {
		breaks[withGreatest] = breaks[withGreatest] || times[x][n-1] != x
		breaks[withLeast] = breaks[withLeast] || times[x][0] != 0
		for y := range n {
			breaks[sameBothWays] = breaks[sameBothWays] || times[x][y] != times[y][x]
			for z := range n {
				breaks[sameForThree] = breaks[sameForThree] || times[times[x][y]][z] != times[x][times[y][z]]
				breaks[overJoins] = breaks[overJoins] || times[x][joins[y][z]] != joins[times[x][y]][times[x][z]]
			}
		}
	}
	var broken []law
	for l, is := range breaks {
		if is {
			broken = append(broken, law(l))
		}
	}
	return broken
}

// hasShape reports whether there is a product of each two of n elements.
func hasShape(n int, times [][]int) bool {
	if len(times) != n {
		return false
	}
	for _, row := range times {
		if len(row) != n || slices.ContainsFunc(row, func(z int) bool { return z < 0 || z >= n }) {
			return false
		}
	}
	return true
}

// plainAlgebra follows the document's words for ValidAlgebra.
func plainAlgebra(a impl.Algebra) bool {
	if !plainLattice(a.Up) || !hasShape(len(a.Up), a.Times) {
		return false
	}
	_, joins := plainTables(a.Up)
	return len(brokenLaws(joins, a.Times)) == 0
}

// cloned is an algebra in memory of its own.
func cloned(a impl.Algebra) impl.Algebra {
	b := impl.Algebra{Up: slices.Clone(a.Up), Times: slices.Clone(a.Times)}
	for x := range b.Times {
		b.Times[x] = slices.Clone(b.Times[x])
	}
	return b
}

// algebrasOn are all algebras of a lattice. Products of elements but the least
// and the greatest one are tried that are at most the meet and the same both
// ways; TestPromise13 tells why no others are needed.
func algebrasOn(up []int) []impl.Algebra {
	n := len(up)
	meets, joins := plainTables(up)
	a := impl.Algebra{Up: up, Times: zeros(n)}
	var places [][2]int
	var choices [][]int
	for x := range n {
		a.Times[x][n-1], a.Times[n-1][x] = x, x
		for y := x; 0 < x && y < n-1; y++ {
			places = append(places, [2]int{x, y})
			choices = append(choices, slices.DeleteFunc(numbersFrom(0, n), func(z int) bool { return !below(up, z, meets[x][y]) }))
		}
	}
	var all []impl.Algebra
	choose(choices, func(list []int) {
		for i, p := range places {
			a.Times[p[0]][p[1]], a.Times[p[1]][p[0]] = list[i], list[i]
		}
		if len(brokenLaws(joins, a.Times)) == 0 {
			all = append(all, cloned(a))
		}
	})
	return all
}

// everyAlgebra are all algebras of at most 5 elements, and those of 6 in which
// each element is at most no lesser number.
var everyAlgebra = sync.OnceValue(func() []impl.Algebra {
	var all []impl.Algebra
	for _, up := range everyLattice() {
		if len(up) < 6 || goesUp(up) {
			all = append(all, algebrasOn(up)...)
		}
	}
	return all
})

// guardedAlgebra returns an algebra with room behind each list, and a check
// that neither the lists nor the room have been written to.
func guardedAlgebra(a impl.Algebra) (impl.Algebra, func() bool) {
	var checks []func() bool
	guard := func(list []int) []int {
		copied, kept := guarded(list)
		checks = append(checks, kept)
		return copied
	}
	up := guard(a.Up)
	var rows [][]int
	for _, row := range a.Times {
		rows = append(rows, guard(row))
	}
	rows = append(rows, []int{spare}, nil)
	before := slices.Clone(rows)
	return impl.Algebra{Up: up, Times: rows[:len(a.Times):len(rows)]}, func() bool {
		for _, kept := range checks {
			if !kept() {
				return false
			}
		}
		return slices.EqualFunc(rows, before, sameList)
	}
}

// sameList reports whether two lists are the same piece of memory.
func sameList(a, b []int) bool {
	return len(a) == len(b) && cap(a) == cap(b) && (cap(a) == 0 || &a[:1][0] == &b[:1][0])
}

// listsOf are all lists of numbers in an algebra.
func listsOf(a impl.Algebra) [][]int {
	return append([][]int{a.Up}, a.Times...)
}

// scribbleAll writes over an algebra and over all room in it.
func scribbleAll(a impl.Algebra) {
	for _, list := range listsOf(a) {
		scribble(list)
	}
	rows := a.Times[:cap(a.Times)]
	for i := range rows {
		rows[i] = []int{spare}
	}
}

// areApart reports whether what is done to one list of a result leaves the
// other ones as they are.
func areApart(make func() [][]int) bool {
	for i := range make() {
		lists := make()
		before := make()
		scribble(lists[i])
		for j := range lists {
			if i != j && !slices.Equal(lists[j], before[j]) {
				return false
			}
		}
	}
	return true
}

func sameAlgebra(a, b impl.Algebra) bool {
	return reflect.DeepEqual(a, b)
}

func isZero(a impl.Algebra) bool {
	return a.Up == nil && a.Times == nil
}
