package impl

import "slices"

// MaxSize is the largest number of elements.
const MaxSize = 6

// MaxList is the largest number of elements of which all lattices and chains are
// listed.
const MaxList = 5

// order tells at x and y whether the element y is at least x. It is false past
// the elements that there are, so that two orders are the same as arrays
// exactly if they are the same as orders.
type order [MaxSize][MaxSize]bool

// table tells at x and y what becomes of both elements.
type table [MaxSize][MaxSize]int

// lattice keeps what the numbers of a lattice say, since every question asks
// for the order or for meets and joins many times.
type lattice struct {
	size  int
	order order
	meets table
	joins table
}

// isSetOf reports whether set is a sum of 2 to each of some of size elements.
func isSetOf(size, set int) bool {
	return set >= 0 && set < 1<<size
}

// isIn reports whether a set has the element x.
func isIn(x, set int) bool {
	return set>>x&1 == 1
}

// readOrder takes any numbers of elements that there are, since whether they
// are an order is easier to tell from the array that it makes of them.
func readOrder(up []int) (order, bool) {
	var o order
	if len(up) < 1 || len(up) > MaxSize {
		return order{}, false
	}
	for x, set := range up {
		if !isSetOf(len(up), set) {
			return order{}, false
		}
		for y := range up {
			o[x][y] = isIn(y, set)
		}
	}
	return o, true
}

// equality is the order in which each element is at least itself alone.
func equality(size int) order {
	var o order
	for x := range size {
		o[x][x] = true
	}
	return o
}

// reversed tells what is at most where o tells what is at least, so that joins
// need no search of their own.
func (o order) reversed() order {
	var r order
	for x := range o {
		for y := range o {
			r[y][x] = o[x][y]
		}
	}
	return r
}

// bothWays keeps of o what its reversed one tells as well.
func (o order) bothWays() order {
	r := o.reversed()
	for x := range o {
		for y := range o {
			r[x][y] = r[x][y] && o[x][y]
		}
	}
	return r
}

// inTwoSteps tells what is at least one that is at least x.
func (o order) inTwoSteps() order {
	var two order
	for x := range o {
		for m := range o {
			for y := range o {
				two[x][y] = two[x][y] || o[x][m] && o[m][y]
			}
		}
	}
	return two
}

// isOrder compares whole arrays: what holds both ways is equality alone, and
// two steps lead just as far as one, since from each element to itself is a step.
func (o order) isOrder(size int) bool {
	return o.bothWays() == equality(size) && o.inTwoSteps() == o
}

// isBounded reports whether 0 is the least and the last element the greatest.
func (o order) isBounded(size int) bool {
	for x := range size {
		if !o[0][x] || !o[x][size-1] {
			return false
		}
	}
	return true
}

// meetFinder returns what finds meets, and joins if o is reversed; it can fail,
// as it is asked before it is known that o is a lattice.
func (o order) meetFinder(size int) func(x, y int) (int, bool) {
	return func(x, y int) (int, bool) {
	candidates:
		for meet := range size {
			if !o[meet][x] || !o[meet][y] {
				continue
			}
			for other := range size {
				if o[other][x] && o[other][y] && !o[other][meet] {
					continue candidates
				}
			}
			return meet, true
		}
		return 0, false
	}
}

// tabled asks find for each two elements; it fails where find does.
func tabled(size int, find func(x, y int) (int, bool)) (table, bool) {
	var t table
	for x := range size {
		for y := range size {
			found, ok := find(x, y)
			if !ok {
				return table{}, false
			}
			t[x][y] = found
		}
	}
	return t, true
}

// readLattice reads the numbers of a lattice; it fails for all others.
func readLattice(up []int) (lattice, bool) {
	size := len(up)
	o, ok := readOrder(up)
	if !ok || !o.isOrder(size) || !o.isBounded(size) {
		return lattice{}, false
	}
	meets, hasMeets := tabled(size, o.meetFinder(size))
	joins, hasJoins := tabled(size, o.reversed().meetFinder(size))
	if !hasMeets || !hasJoins {
		return lattice{}, false
	}
	return lattice{size: size, order: o, meets: meets, joins: joins}, true
}

// greatest is the greatest element.
func (l lattice) greatest() int {
	return l.size - 1
}

// elements are all elements, ascending.
func (l lattice) elements() []int {
	return elementsThat(l.size, func(int) bool { return true })
}

// has reports whether there are elements of all the numbers.
func (l lattice) has(elements ...int) bool {
	for _, x := range elements {
		if x < 0 || x >= l.size {
			return false
		}
	}
	return true
}

// readLatticeWith reads the numbers of a lattice that has all the elements.
func readLatticeWith(up []int, elements ...int) (lattice, bool) {
	l, ok := readLattice(up)
	if !ok || !l.has(elements...) {
		return lattice{}, false
	}
	return l, true
}

// allTwo reports whether something holds of each two elements, both ways.
func allTwo(size int, holds func(x, y int) bool) bool {
	for x := range size {
		for y := range size {
			if !holds(x, y) {
				return false
			}
		}
	}
	return true
}

// upOf writes an order as the numbers that readOrder reads.
func upOf(size int, isBelow func(x, y int) bool) []int {
	up := make([]int, size)
	for x := range size {
		for y := range size {
			if isBelow(x, y) {
				up[x] |= 1 << y
			}
		}
	}
	return up
}

// elementsThat returns, ascending, the elements that pass.
func elementsThat(size int, pass func(x int) bool) []int {
	var list []int
	for x := range size {
		if pass(x) {
			list = append(list, x)
		}
	}
	return list
}

// ValidLattice reports whether numbers are a lattice.
func ValidLattice(up []int) bool {
	_, ok := readLattice(up)
	return ok
}

// IsBelow reports whether an element is at most another one.
func IsBelow(up []int, x int, y int) bool {
	l, ok := readLatticeWith(up, x, y)
	return ok && l.order[x][y]
}

// MeetOf returns the greatest element at most two ones.
func MeetOf(up []int, x int, y int) int {
	l, ok := readLatticeWith(up, x, y)
	if !ok {
		return -1
	}
	return l.meets[x][y]
}

// JoinOf returns the least element at least two ones.
func JoinOf(up []int, x int, y int) int {
	l, ok := readLatticeWith(up, x, y)
	if !ok {
		return -1
	}
	return l.joins[x][y]
}

// isAbove reports whether y is at least x and another one.
func (l lattice) isAbove(x, y int) bool {
	return x != y && l.order[x][y]
}

// isCover reports whether y is above x with none between.
func (l lattice) isCover(x, y int) bool {
	for z := range l.size {
		if l.isAbove(x, z) && l.isAbove(z, y) {
			return false
		}
	}
	return l.isAbove(x, y)
}

// CoversOf returns the elements right above one.
func CoversOf(up []int, x int) []int {
	l, ok := readLatticeWith(up, x)
	if !ok {
		return nil
	}
	return elementsThat(l.size, func(y int) bool { return l.isCover(x, y) })
}

// isChain reports whether of each two elements one is at least the other one.
func (l lattice) isChain() bool {
	return allTwo(l.size, func(x, y int) bool { return l.order[x][y] || l.order[y][x] })
}

// IsChain reports whether all elements are comparable.
func IsChain(up []int) bool {
	l, ok := readLattice(up)
	return ok && l.isChain()
}

// goesOver reports whether t of x and joined elements is t of both, joined.
func (t table) goesOver(joins table, size int) bool {
	return allTwo(size, func(y, z int) bool {
		for x := range size {
			if t[x][joins[y][z]] != joins[t[x][y]][t[x][z]] {
				return false
			}
		}
		return true
	})
}

// IsDistributive reports whether meets go over joins.
func IsDistributive(up []int) bool {
	l, ok := readLattice(up)
	return ok && l.meets.goesOver(l.joins, l.size)
}

// ComplementsOf returns the complements of an element.
func ComplementsOf(up []int, x int) []int {
	l, ok := readLatticeWith(up, x)
	if !ok {
		return nil
	}
	return elementsThat(l.size, func(y int) bool {
		return l.meets[x][y] == 0 && l.joins[x][y] == l.greatest()
	})
}

// TurnedLattice returns a lattice upside down.
func TurnedLattice(up []int) []int {
	l, ok := readLattice(up)
	if !ok {
		return nil
	}
	last := l.greatest()
	return upOf(l.size, func(x, y int) bool { return l.order[last-y][last-x] })
}

// ChainOf returns a lattice in which all are comparable.
func ChainOf(n int) []int {
	if n < 1 || n > MaxSize {
		return nil
	}
	return upOf(n, func(x, y int) bool { return x <= y })
}

// CrossLattices returns the lattice of pairs.
func CrossLattices(a []int, b []int) []int {
	first, okFirst := readLattice(a)
	second, okSecond := readLattice(b)
	if !okFirst || !okSecond || first.size*second.size > MaxSize {
		return nil
	}
	n := second.size
	return upOf(first.size*n, func(p, q int) bool {
		return first.order[p/n][q/n] && second.order[p%n][q%n]
	})
}

// upChoices returns, ascending, the numbers that the element x of n may have
// where it is at most no lesser one. The least element and the greatest one
// leave so few that every list of them can be tried.
func upChoices(n, x int) []int {
	full := 1<<n - 1
	if x == 0 {
		return []int{full}
	}
	var sets []int
	for set := 1 << x; set <= full; set += 2 << x {
		if isIn(n-1, set) {
			sets = append(sets, set)
		}
	}
	return sets
}

// AllLattices returns all lattices of some elements.
func AllLattices(n int) [][]int {
	if n < 1 || n > MaxList {
		return nil
	}
	var all [][]int
	up := make([]int, n)
	var fill func(x int)
	fill = func(x int) {
		if x == n {
			if ValidLattice(up) {
				all = append(all, slices.Clone(up))
			}
			return
		}
		for _, set := range upChoices(n, x) {
			up[x] = set
			fill(x + 1)
		}
	}
	fill(0)
	return all
}
