package tests

import (
	"math"
	"slices"
)

// outside are numbers that are elements of nothing, however many there are.
var outside = []int{-1, -2, 6, 7, 63, 64, 65, math.MinInt, math.MaxInt}

// outsideOf are the numbers that are no elements of a lattice, the one right
// behind the last element among them.
func outsideOf(up []int) []int {
	return append([]int{len(up)}, outside...)
}

// below tells from the numbers alone whether y is at least x.
func below(up []int, x, y int) bool {
	return up[x]>>y&1 == 1
}

// bestBelow is the only element that bound holds of and that is at least all
// others that bound holds of, in the order of least; -1 if there is none.
func bestBelow(n int, bound func(z int) bool, least func(x, y int) bool) int {
	for best := range n {
		all := bound(best)
		for z := range n {
			all = all && (!bound(z) || least(z, best))
		}
		if all {
			return best
		}
	}
	return -1
}

// plainMeet and plainJoin follow the document's words, for numbers that need
// not be a lattice.
func plainMeet(up []int, x, y int) int {
	return bestBelow(len(up),
		func(z int) bool { return below(up, z, x) && below(up, z, y) },
		func(z, w int) bool { return below(up, z, w) })
}

func plainJoin(up []int, x, y int) int {
	return bestBelow(len(up),
		func(z int) bool { return below(up, x, z) && below(up, y, z) },
		func(z, w int) bool { return below(up, w, z) })
}

// plainOrder follows the document's words for an order with 0 as the least
// element and the last one as the greatest.
func plainOrder(up []int) bool {
	n := len(up)
	for x := range n {
		if up[x] < 0 || up[x] >= 1<<n || !below(up, x, x) || !below(up, 0, x) || !below(up, x, n-1) {
			return false
		}
		for y := range n {
			if x != y && below(up, x, y) && below(up, y, x) {
				return false
			}
			for z := range n {
				if below(up, x, y) && below(up, y, z) && !below(up, x, z) {
					return false
				}
			}
		}
	}
	return true
}

// plainLattice follows the document's words for ValidLattice.
func plainLattice(up []int) bool {
	n := len(up)
	if n < 1 || n > 6 || !plainOrder(up) {
		return false
	}
	for x := range n {
		for y := range n {
			if plainMeet(up, x, y) < 0 || plainJoin(up, x, y) < 0 {
				return false
			}
		}
	}
	return true
}

// choose calls do with each list that has one number of each of the choices,
// that with the lesser choice at the first place first.
func choose(choices [][]int, do func(list []int)) {
	list := make([]int, len(choices))
	var fill func(i int)
	fill = func(i int) {
		if i == len(choices) {
			do(list)
			return
		}
		for _, c := range choices[i] {
			list[i] = c
			fill(i + 1)
		}
	}
	fill(0)
}

// numbersFrom are the numbers from the first to before the last.
func numbersFrom(first, last int) []int {
	var list []int
	for i := first; i < last; i++ {
		list = append(list, i)
	}
	return list
}

// likelyNumbers are for each of n elements numbers that leave out no lattice:
// 0 has all, each has itself and the last one, and none but 0 has 0.
func likelyNumbers(n int) [][]int {
	choices := make([][]int, n)
	for x := range n {
		for set := range 1 << n {
			own := set>>x&1 == 1 && set>>(n-1)&1 == 1
			if own && (x == 0) == (set&1 == 1) && (x > 0 || set == 1<<n-1) {
				choices[x] = append(choices[x], set)
			}
		}
	}
	return choices
}

// latticesOf are all lattices of n elements, whatever numbers these have.
func latticesOf(n int) [][]int {
	var all [][]int
	choose(likelyNumbers(n), func(up []int) {
		if plainLattice(up) {
			all = append(all, slices.Clone(up))
		}
	})
	return all
}

// everyLattice are all lattices that there are.
func everyLattice() [][]int {
	var all [][]int
	for n := 1; n <= 6; n++ {
		all = append(all, latticesOf(n)...)
	}
	return all
}

// spare is what stands behind a guarded list and is not to be written over.
const spare = -77

// guarded returns a list with room behind it, and a check that neither the
// list nor the room has been written to.
func guarded(list []int) ([]int, func() bool) {
	whole := append(slices.Clone(list), spare, spare, spare, spare)
	before := slices.Clone(whole)
	return whole[:len(list):len(whole)], func() bool { return slices.Equal(whole, before) }
}

// scribble writes over a result and over all room behind it.
func scribble(list []int) {
	list = list[:cap(list)]
	for i := range list {
		list[i] = -99
	}
}
