package tests

import (
	"maps"
	"math"
	"slices"
	"testing"

	"loop.example/residuatedtables/impl"
)

var (
	one      = []int{1}
	two      = []int{3, 2}
	chain3   = []int{7, 6, 4}
	square   = []int{15, 10, 12, 8}
	pentagon = []int{31, 22, 20, 24, 16}
	diamond  = []int{31, 18, 20, 24, 16}
	hexagon  = []int{63, 42, 52, 40, 48, 32}
	grid     = []int{63, 42, 60, 40, 48, 32}
	swapped  = []int{15, 10, 14, 8}
)

// noLattices are numbers that are no lattice, each for its own reason.
var noLattices = map[string][]int{
	"nil":                        nil,
	"none at all":                {},
	"more than MaxSize":          {127, 126, 124, 120, 112, 96, 64},
	"many more than MaxSize":     make([]int, 70),
	"one not at least itself":    {0},
	"one with another one":       {3},
	"one of others alone":        {2},
	"one negative":               {-1},
	"0 not the least":            {1, 2},
	"1 below 0":                  {1, 3},
	"two at least each other":    {3, 3},
	"last not at least itself":   {3, 0},
	"middle not at least itself": {7, 4, 4},
	"greatest is not the last":   {7, 2, 6},
	"least is not the first":     {5, 7, 4},
	"no greatest":                {7, 2, 4},
	"no least":                   {5, 6, 4},
	"middle ones equal":          {15, 14, 14, 8},
	"not transitive":             {31, 22, 28, 24, 16},
	"two steps up missing":       {31, 2 | 4 | 16, 4 | 8 | 16, 8 | 16, 16},
	"no meets and joins":         {63, 58, 60, 40, 48, 32},
	"no meets, other numbers":    {63, 2 | 32, 2 | 4 | 8 | 32, 8 | 32, 2 | 8 | 16 | 32, 32},
	"bit past the elements":      {7, 2},
	"bit past all the elements":  {3 | 64, 2 | 64},
	"bit far past the elements":  {3, 2 | 1<<62},
	"negative with right bits":   {-1, -2},
	"least number of all":        {3, 2 | math.MinInt},
	"square with -1":             {-1, 10, 12, 8},
	"all zero":                   {0, 0, 0},
	"all one":                    {7, 7, 7},
}

// checkValid holds ValidLattice against the words of the document for all
// lists of the choices, and counts the lattices.
func checkValid(t *testing.T, choices [][]int, want int) {
	t.Helper()
	count := 0
	choose(choices, func(up []int) {
		got := impl.ValidLattice(up)
		if got != plainLattice(up) {
			t.Fatalf("ValidLattice(%v) = %t", up, got)
		}
		if got {
			count++
		}
	})
	if count != want {
		t.Errorf("%d lattices of %d elements, want %d", count, len(choices), want)
	}
}

// TestValidLatticeSmall tries all numbers, some outside the bounds among them.
func TestValidLatticeSmall(t *testing.T) {
	for n, want := range map[int]int{1: 1, 2: 1, 3: 1, 4: 3} {
		choices := make([][]int, n)
		for x := range choices {
			choices[x] = numbersFrom(-1, 1<<n+1)
		}
		checkValid(t, choices, want)
	}
}

// TestValidLatticeLarge tries all likely numbers. The counts are those of the
// posets of the elements between the least and the greatest one, less 6 of 4
// that lack meets.
func TestValidLatticeLarge(t *testing.T) {
	for n, want := range map[int]int{5: 19, 6: 213} {
		checkValid(t, likelyNumbers(n), want)
	}
}

// TestValidLatticeChangedBit tries all lattices with one bit changed.
func TestValidLatticeChangedBit(t *testing.T) {
	for _, up := range everyLattice() {
		for x := range up {
			for bit := range 64 {
				changed := slices.Clone(up)
				changed[x] ^= 1 << bit
				if got := impl.ValidLattice(changed); got != plainLattice(changed) {
					t.Fatalf("ValidLattice(%v) = %t", changed, got)
				}
			}
		}
	}
}

// TestNoLattice checks the fixed result of each function for numbers that are
// no lattice.
func TestNoLattice(t *testing.T) {
	for name, up := range noLattices {
		if impl.ValidLattice(up) {
			t.Errorf("%s: ValidLattice", name)
		}
		if impl.IsChain(up) || impl.IsDistributive(up) {
			t.Errorf("%s: IsChain, IsDistributive", name)
		}
		if impl.TurnedLattice(up) != nil {
			t.Errorf("%s: TurnedLattice", name)
		}
		if impl.CrossLattices(up, one) != nil || impl.CrossLattices(one, up) != nil || impl.CrossLattices(up, up) != nil {
			t.Errorf("%s: CrossLattices", name)
		}
		for x := -1; x <= len(up); x++ {
			if len(impl.CoversOf(up, x)) != 0 || len(impl.ComplementsOf(up, x)) != 0 {
				t.Errorf("%s: CoversOf, ComplementsOf %d", name, x)
			}
			for y := -1; y <= len(up); y++ {
				if impl.IsBelow(up, x, y) || impl.MeetOf(up, x, y) != -1 || impl.JoinOf(up, x, y) != -1 {
					t.Errorf("%s: IsBelow, MeetOf, JoinOf %d %d", name, x, y)
				}
			}
		}
	}
}

// TestNoElement checks the fixed result of each function for numbers that are
// no elements of the lattice.
func TestNoElement(t *testing.T) {
	for _, up := range [][]int{one, two, chain3, square, pentagon, diamond, hexagon, grid} {
		for _, no := range outsideOf(up) {
			if len(impl.CoversOf(up, no)) != 0 || len(impl.ComplementsOf(up, no)) != 0 {
				t.Errorf("CoversOf, ComplementsOf(%v, %d)", up, no)
			}
			for x := range up {
				for _, pair := range [][2]int{{x, no}, {no, x}, {no, no}} {
					a, b := pair[0], pair[1]
					if impl.IsBelow(up, a, b) || impl.MeetOf(up, a, b) != -1 || impl.JoinOf(up, a, b) != -1 {
						t.Errorf("IsBelow, MeetOf, JoinOf(%v, %d, %d)", up, a, b)
					}
				}
			}
		}
	}
}

// TestOneElement: the one element is the least and the greatest one.
func TestOneElement(t *testing.T) {
	if !impl.ValidLattice(one) || !impl.IsBelow(one, 0, 0) || impl.MeetOf(one, 0, 0) != 0 || impl.JoinOf(one, 0, 0) != 0 {
		t.Error("the order of one element")
	}
	if len(impl.CoversOf(one, 0)) != 0 || !impl.IsChain(one) || !impl.IsDistributive(one) {
		t.Error("the covers of one element")
	}
	if got := impl.ComplementsOf(one, 0); !slices.Equal(got, []int{0}) {
		t.Errorf("ComplementsOf = %v", got)
	}
	if !slices.Equal(impl.TurnedLattice(one), one) || !slices.Equal(impl.ChainOf(1), one) || !slices.Equal(impl.CrossLattices(one, one), one) {
		t.Error("lattices of one element")
	}
	if !slices.Equal(impl.CrossLattices(one, grid), grid) || !slices.Equal(impl.CrossLattices(pentagon, one), pentagon) {
		t.Error("pairs with one element")
	}
}

// TestTwoElements: each of the two is the complement of the other one.
func TestTwoElements(t *testing.T) {
	if !impl.ValidLattice(two) || !impl.IsBelow(two, 0, 1) || impl.IsBelow(two, 1, 0) || impl.MeetOf(two, 0, 1) != 0 || impl.JoinOf(two, 0, 1) != 1 {
		t.Error("the order of two elements")
	}
	if !slices.Equal(impl.CoversOf(two, 0), []int{1}) || len(impl.CoversOf(two, 1)) != 0 {
		t.Error("the covers of two elements")
	}
	if !slices.Equal(impl.ComplementsOf(two, 0), []int{1}) || !slices.Equal(impl.ComplementsOf(two, 1), []int{0}) {
		t.Error("the complements of two elements")
	}
	if !slices.Equal(impl.TurnedLattice(two), two) || !impl.IsChain(two) || !impl.IsDistributive(two) {
		t.Error("lattices of two elements")
	}
}

// TestOrder holds IsBelow, MeetOf, JoinOf, CoversOf and ComplementsOf against
// the words of the document in all lattices.
func TestOrder(t *testing.T) {
	for _, up := range everyLattice() {
		n := len(up)
		for x := range n {
			var covers, complements []int
			for y := range n {
				meet, join := plainMeet(up, x, y), plainJoin(up, x, y)
				if impl.IsBelow(up, x, y) != below(up, x, y) {
					t.Fatalf("IsBelow(%v, %d, %d)", up, x, y)
				}
				if got := impl.MeetOf(up, x, y); got != meet {
					t.Fatalf("MeetOf(%v, %d, %d) = %d", up, x, y, got)
				}
				if got := impl.JoinOf(up, x, y); got != join {
					t.Fatalf("JoinOf(%v, %d, %d) = %d", up, x, y, got)
				}
				if meet == 0 && join == n-1 {
					complements = append(complements, y)
				}
				if plainCover(up, x, y) {
					covers = append(covers, y)
				}
			}
			if got := impl.CoversOf(up, x); !slices.Equal(got, covers) {
				t.Fatalf("CoversOf(%v, %d) = %v", up, x, got)
			}
			if got := impl.ComplementsOf(up, x); !slices.Equal(got, complements) {
				t.Fatalf("ComplementsOf(%v, %d) = %v", up, x, got)
			}
		}
	}
}

func plainCover(up []int, x, y int) bool {
	if x == y || !below(up, x, y) {
		return false
	}
	for z := range up {
		if z != x && z != y && below(up, x, z) && below(up, z, y) {
			return false
		}
	}
	return true
}

// TestComplementNone: elements between the least and the greatest one of a
// chain have no complement.
func TestComplementNone(t *testing.T) {
	for n := 1; n <= 6; n++ {
		for x := range n {
			var want []int
			if x == 0 || x == n-1 {
				want = []int{n - 1 - x}
			}
			if got := impl.ComplementsOf(impl.ChainOf(n), x); !slices.Equal(got, want) {
				t.Errorf("ComplementsOf(ChainOf(%d), %d) = %v", n, x, got)
			}
		}
	}
	if got := impl.ComplementsOf(pentagon, 3); !slices.Equal(got, []int{1, 2}) {
		t.Errorf("ComplementsOf the pentagon = %v", got)
	}
	if got := impl.ComplementsOf(diamond, 2); !slices.Equal(got, []int{1, 3}) {
		t.Errorf("ComplementsOf the diamond = %v", got)
	}
	if len(impl.ComplementsOf(grid, 3)) != 0 || !slices.Equal(impl.ComplementsOf(grid, 1), []int{4}) {
		t.Error("ComplementsOf the grid")
	}
}

// TestDistributive holds IsChain and IsDistributive against the words of the
// document.
func TestDistributive(t *testing.T) {
	chains, distributive := 0, 0
	for _, up := range everyLattice() {
		if impl.IsChain(up) != plainChain(up) {
			t.Fatalf("IsChain(%v)", up)
		}
		if impl.IsDistributive(up) != plainDistributive(up) {
			t.Fatalf("IsDistributive(%v)", up)
		}
		if plainChain(up) {
			chains++
		}
		if plainDistributive(up) {
			distributive++
		}
	}
	// A chain of n elements has its n-2 middle ones in any order.
	if chains != 1+1+1+2+6+24 || distributive <= chains {
		t.Errorf("%d chains, %d distributive", chains, distributive)
	}
	if impl.IsDistributive(pentagon) || impl.IsDistributive(diamond) || !impl.IsDistributive(square) || !impl.IsDistributive(grid) || !impl.IsDistributive(swapped) || impl.IsDistributive(hexagon) {
		t.Error("IsDistributive")
	}
}

func plainChain(up []int) bool {
	for x := range up {
		for y := range up {
			if !below(up, x, y) && !below(up, y, x) {
				return false
			}
		}
	}
	return true
}

func plainDistributive(up []int) bool {
	for x := range up {
		for y := range up {
			for z := range up {
				if plainMeet(up, x, plainJoin(up, y, z)) != plainJoin(up, plainMeet(up, x, y), plainMeet(up, x, z)) {
					return false
				}
			}
		}
	}
	return true
}

// P1: a lattice upside down is one, with the least element at most all and all
// at most the greatest one.
func TestPromise01(t *testing.T) {
	for _, up := range everyLattice() {
		turned := impl.TurnedLattice(up)
		if !impl.ValidLattice(turned) || len(turned) != len(up) {
			t.Fatalf("TurnedLattice(%v) = %v", up, turned)
		}
		for x := range turned {
			if !impl.IsBelow(turned, 0, x) || !impl.IsBelow(turned, x, len(up)-1) {
				t.Fatalf("TurnedLattice(%v) = %v at %d", up, turned, x)
			}
		}
	}
	if got := impl.TurnedLattice(pentagon); !slices.Equal(got, []int{31, 18, 28, 24, 16}) {
		t.Errorf("TurnedLattice = %v", got)
	}
}

// P2: IsBelow holds exactly if MeetOf is the first one, and exactly if JoinOf
// is the second one.
func TestPromise02(t *testing.T) {
	for _, up := range everyLattice() {
		for x := range up {
			for y := range up {
				is := impl.IsBelow(up, x, y)
				if is != (impl.MeetOf(up, x, y) == x) || is != (impl.JoinOf(up, x, y) == y) {
					t.Fatalf("IsBelow(%v, %d, %d) = %t", up, x, y, is)
				}
			}
		}
	}
}

// P3: MeetOf is at most both, each element at most both is at most it, and it
// is the same both ways.
func TestPromise03(t *testing.T) {
	for _, up := range everyLattice() {
		for x := range up {
			for y := range up {
				meet := impl.MeetOf(up, x, y)
				if !impl.IsBelow(up, meet, x) || !impl.IsBelow(up, meet, y) || meet != impl.MeetOf(up, y, x) {
					t.Fatalf("MeetOf(%v, %d, %d) = %d", up, x, y, meet)
				}
				for z := range up {
					if impl.IsBelow(up, z, x) && impl.IsBelow(up, z, y) && !impl.IsBelow(up, z, meet) {
						t.Fatalf("MeetOf(%v, %d, %d) = %d, but %d", up, x, y, meet, z)
					}
				}
			}
		}
	}
	if impl.MeetOf(square, 1, 2) != 0 || impl.MeetOf(pentagon, 2, 1) != 1 || impl.MeetOf(grid, 3, 4) != 2 || impl.MeetOf(hexagon, 3, 4) != 0 {
		t.Error("MeetOf")
	}
}

// P4: JoinOf is MeetOf of TurnedLattice, and with a meet it is as before.
func TestPromise04(t *testing.T) {
	for _, up := range everyLattice() {
		turned, last := impl.TurnedLattice(up), len(up)-1
		for x := range up {
			for y := range up {
				join := impl.JoinOf(up, x, y)
				if join != last-impl.MeetOf(turned, last-x, last-y) {
					t.Fatalf("JoinOf(%v, %d, %d) = %d", up, x, y, join)
				}
				if impl.JoinOf(up, x, impl.MeetOf(up, x, y)) != x || impl.MeetOf(up, x, join) != x {
					t.Fatalf("JoinOf(%v, %d, %d) with meets", up, x, y)
				}
			}
		}
	}
}

// P5: each element above another one is at least one of CoversOf, and no cover
// is at least another one.
func TestPromise05(t *testing.T) {
	for _, up := range everyLattice() {
		for x := range up {
			covers := impl.CoversOf(up, x)
			for y := range up {
				above := x != y && impl.IsBelow(up, x, y)
				if above != slices.ContainsFunc(covers, func(c int) bool { return impl.IsBelow(up, c, y) }) {
					t.Fatalf("CoversOf(%v, %d) = %v, but %d", up, x, covers, y)
				}
			}
			for i, c := range covers {
				for j, d := range covers {
					if i != j && impl.IsBelow(up, c, d) || i < j && c >= d {
						t.Fatalf("CoversOf(%v, %d) = %v", up, x, covers)
					}
				}
			}
		}
	}
}

// P6: IsChain implies IsDistributive, and that each element but the greatest
// one has one cover.
func TestPromise06(t *testing.T) {
	for _, up := range everyLattice() {
		if !impl.IsChain(up) {
			continue
		}
		if !impl.IsDistributive(up) {
			t.Fatalf("IsDistributive(%v)", up)
		}
		for x := range up {
			want := 1
			if x == len(up)-1 {
				want = 0
			}
			if got := impl.CoversOf(up, x); len(got) != want {
				t.Fatalf("CoversOf(%v, %d) = %v", up, x, got)
			}
		}
	}
	if !impl.IsChain(impl.ChainOf(6)) || !impl.IsChain(swapped) || impl.IsChain(grid) {
		t.Error("IsChain")
	}
}

// P8: ComplementsOf are at most one in a distributive lattice, and each has
// the element among its own.
func TestPromise08(t *testing.T) {
	several := 0
	for _, up := range everyLattice() {
		for x := range up {
			complements := impl.ComplementsOf(up, x)
			if len(complements) > 1 {
				several++
				if impl.IsDistributive(up) {
					t.Fatalf("ComplementsOf(%v, %d) = %v", up, x, complements)
				}
			}
			for _, c := range complements {
				if !slices.Contains(impl.ComplementsOf(up, c), x) {
					t.Fatalf("ComplementsOf(%v, %d) = %v", up, x, complements)
				}
			}
		}
		if !slices.Equal(impl.ComplementsOf(up, 0), []int{len(up) - 1}) {
			t.Fatalf("ComplementsOf(%v, 0)", up)
		}
	}
	if several == 0 {
		t.Error("no element has several complements")
	}
}

// P9: TurnedLattice twice is the lattice, and one element is at most another
// one exactly if it was at least it.
func TestPromise09(t *testing.T) {
	for _, up := range everyLattice() {
		turned, last := impl.TurnedLattice(up), len(up)-1
		if got := impl.TurnedLattice(turned); !slices.Equal(got, up) {
			t.Fatalf("TurnedLattice(%v) = %v", turned, got)
		}
		for x := range up {
			for y := range up {
				if impl.IsBelow(turned, x, y) != impl.IsBelow(up, last-y, last-x) {
					t.Fatalf("TurnedLattice(%v) = %v at %d, %d", up, turned, x, y)
				}
			}
		}
	}
}

// P10: ChainOf is a chain, turned it is itself, and elements are at most
// greater numbers.
func TestPromise10(t *testing.T) {
	for n := 1; n <= 6; n++ {
		chain := impl.ChainOf(n)
		if len(chain) != n || !impl.IsChain(chain) || !slices.Equal(impl.TurnedLattice(chain), chain) {
			t.Fatalf("ChainOf(%d) = %v", n, chain)
		}
		for x := range n {
			for y := range n {
				if impl.IsBelow(chain, x, y) != (x <= y) {
					t.Fatalf("ChainOf(%d) = %v at %d, %d", n, chain, x, y)
				}
			}
		}
	}
	if got := impl.ChainOf(6); !slices.Equal(got, []int{63, 62, 60, 56, 48, 32}) {
		t.Errorf("ChainOf(6) = %v", got)
	}
	for _, n := range []int{0, -1, -2, 7, 8, 63, 64, 1000, math.MinInt, math.MaxInt} {
		if impl.ChainOf(n) != nil {
			t.Errorf("ChainOf(%d)", n)
		}
	}
}

// P11: CrossLattices is a lattice, distributive exactly if both are.
func TestPromise11(t *testing.T) {
	all := everyLattice()
	for _, a := range all {
		for _, b := range all {
			cross := impl.CrossLattices(a, b)
			if len(a)*len(b) > 6 {
				if cross != nil {
					t.Fatalf("CrossLattices(%v, %v) = %v", a, b, cross)
				}
				continue
			}
			if !impl.ValidLattice(cross) || impl.IsDistributive(cross) != (impl.IsDistributive(a) && impl.IsDistributive(b)) {
				t.Fatalf("CrossLattices(%v, %v) = %v", a, b, cross)
			}
			checkPairs(t, a, b, cross)
		}
	}
	if got := impl.CrossLattices(two, chain3); !slices.Equal(got, []int{63, 54, 36, 56, 48, 32}) {
		t.Errorf("CrossLattices = %v", got)
	}
	if got := impl.CrossLattices(chain3, two); !slices.Equal(got, []int{63, 42, 60, 40, 48, 32}) {
		t.Errorf("CrossLattices = %v", got)
	}
}

func checkPairs(t *testing.T, a, b, cross []int) {
	t.Helper()
	n := len(b)
	if len(cross) != len(a)*n {
		t.Fatalf("CrossLattices(%v, %v) = %v", a, b, cross)
	}
	for p := range cross {
		for q := range cross {
			both := below(a, p/n, q/n) && below(b, p%n, q%n)
			if below(cross, p, q) != both {
				t.Fatalf("CrossLattices(%v, %v) = %v at %d, %d", a, b, cross, p, q)
			}
		}
	}
}

// TestCrossTooMany: 6 pairs are allowed and 7 or more are not.
func TestCrossTooMany(t *testing.T) {
	for m := 1; m <= 6; m++ {
		for n := 1; n <= 6; n++ {
			got := impl.CrossLattices(impl.ChainOf(m), impl.ChainOf(n))
			if (got != nil) != (m*n <= 6) {
				t.Errorf("CrossLattices of %d and %d = %v", m, n, got)
			}
		}
	}
}

// P12: AllLattices are lattices with elements at most greater numbers alone,
// and ChainOf is among them. Each comes once, in order, and none is missing.
func TestPromise12(t *testing.T) {
	for n, count := range []int{0, 1, 1, 1, 2, 7} {
		all := impl.AllLattices(n)
		if len(all) != count {
			t.Fatalf("%d lattices of %d elements", len(all), n)
		}
		for i, up := range all {
			if len(up) != n || !impl.ValidLattice(up) || i > 0 && slices.Compare(all[i-1], up) >= 0 {
				t.Fatalf("AllLattices(%d) = %v", n, all)
			}
		}
		if n > 0 && !slices.ContainsFunc(all, func(up []int) bool { return slices.Equal(up, impl.ChainOf(n)) }) {
			t.Errorf("AllLattices(%d) lacks the chain", n)
		}
		want := slices.DeleteFunc(latticesOf(n), func(up []int) bool { return !goesUp(up) })
		if !slices.EqualFunc(all, want, slices.Equal[[]int]) {
			t.Errorf("AllLattices(%d) = %v, want %v", n, all, want)
		}
	}
	for _, n := range outside {
		if impl.AllLattices(n) != nil {
			t.Errorf("AllLattices(%d)", n)
		}
	}
}

// goesUp reports whether each element is at most no lesser number.
func goesUp(up []int) bool {
	for x := range up {
		for y := range x {
			if below(up, x, y) {
				return false
			}
		}
	}
	return true
}

// TestLatticesKept: no function changes its arguments, and no result shares
// memory with them.
func TestLatticesKept(t *testing.T) {
	for _, list := range append(slices.Collect(maps.Values(noLattices)), everyLattice()...) {
		up, kept := guarded(list)
		other, otherKept := guarded(two)
		impl.ValidLattice(up)
		impl.IsChain(up)
		impl.IsDistributive(up)
		results := [][]int{impl.TurnedLattice(up), impl.CrossLattices(up, other), impl.CrossLattices(other, up), impl.CrossLattices(up, up), impl.CrossLattices(one, up), impl.CrossLattices(up, one)}
		for x := range up {
			results = append(results, impl.CoversOf(up, x), impl.ComplementsOf(up, x))
			for y := range up {
				impl.IsBelow(up, x, y)
				impl.MeetOf(up, x, y)
				impl.JoinOf(up, x, y)
			}
		}
		if !kept() || !otherKept() {
			t.Fatalf("the argument %v is %v", list, up)
		}
		for _, result := range results {
			scribble(result)
		}
		if !kept() || !otherKept() {
			t.Fatalf("a result shares memory with %v", list)
		}
	}
	if !slices.Equal(one, []int{1}) {
		t.Fatal("a result shares memory with one element")
	}
}

// TestLatticesFresh: what is done to a result changes neither other slices of
// it nor later results.
func TestLatticesFresh(t *testing.T) {
	for n := 1; n <= 5; n++ {
		before := impl.AllLattices(n)
		for i := range before {
			all := impl.AllLattices(n)
			scribble(all[i])
			for j := range all {
				if i != j && !slices.Equal(all[j], before[j]) {
					t.Fatalf("AllLattices(%d): %d shares memory with %d", n, i, j)
				}
			}
		}
		if !slices.EqualFunc(impl.AllLattices(n), before, slices.Equal[[]int]) {
			t.Fatalf("AllLattices(%d) is another one later", n)
		}
	}
	for name, call := range map[string]func() []int{
		"ChainOf":       func() []int { return impl.ChainOf(5) },
		"TurnedLattice": func() []int { return impl.TurnedLattice(pentagon) },
		"CrossLattices": func() []int { return impl.CrossLattices(two, chain3) },
		"CoversOf":      func() []int { return impl.CoversOf(diamond, 0) },
		"ComplementsOf": func() []int { return impl.ComplementsOf(diamond, 1) },
	} {
		before := slices.Clone(call())
		scribble(call())
		if got := call(); !slices.Equal(got, before) {
			t.Errorf("%s = %v later, %v before", name, got, before)
		}
	}
}

// TestLatticeLimits: the limits are those of the document.
func TestLatticeLimits(t *testing.T) {
	if impl.MaxSize != 6 || impl.MaxList != 5 {
		t.Error("MaxSize, MaxList")
	}
}
