package tests

import (
	"math"
	"slices"
	"testing"

	"loop.example/residuatedtables/impl"
)

var properties = []string{"prelinear", "divisible", "involutive", "idempotent", "boolean"}

// noProperties are names of no property.
var noProperties = []string{"", " ", "Prelinear", "prelinear ", " prelinear", "prelinea", "booleans", "BOOLEAN", "bool", "distributive", "prelinear divisible", "idempotent\n", "involutive\x00"}

// sumRows and meetRows are the products of the chains of three elements.
var (
	sumRows  = [][]int{{0, 0, 0}, {0, 0, 1}, {0, 1, 2}}
	meetRows = [][]int{{0, 0, 0}, {0, 1, 1}, {0, 1, 2}}
	sum3     = impl.Algebra{Up: chain3, Times: sumRows}
	meet3    = impl.Algebra{Up: chain3, Times: meetRows}
	drastic4 = impl.Algebra{Up: []int{15, 14, 12, 8}, Times: [][]int{{0, 0, 0, 0}, {0, 0, 0, 1}, {0, 0, 0, 2}, {0, 1, 2, 3}}}
	oneOnly  = impl.Algebra{Up: one, Times: [][]int{{0}}}
	square4  = impl.Algebra{Up: square, Times: [][]int{{0, 0, 0, 0}, {0, 1, 0, 1}, {0, 0, 2, 2}, {0, 1, 2, 3}}}
)

// noAlgebras are algebras that are none, each for its own reason.
var noAlgebras = map[string]impl.Algebra{
	"nothing":                    {},
	"no products":                {Up: chain3},
	"no products of one":         {Up: one},
	"an empty row of one":        {Up: one, Times: [][]int{{}}},
	"no lattice":                 {Times: sumRows},
	"no lattice and no rows":     {Up: []int{}, Times: [][]int{}},
	"no order":                   {Up: []int{7, 4, 4}, Times: sumRows},
	"greatest is not the last":   {Up: []int{7, 2, 6}, Times: sumRows},
	"no meets and joins":         {Up: []int{63, 58, 60, 40, 48, 32}, Times: zeros(6)},
	"more than MaxSize":          {Up: []int{127, 126, 124, 120, 112, 96, 64}, Times: zeros(7)},
	"too few rows":               {Up: chain3, Times: sumRows[:2]},
	"too many rows":              {Up: chain3, Times: append(slices.Clone(sumRows), []int{0, 1, 2})},
	"an empty row more":          {Up: chain3, Times: append(slices.Clone(sumRows), nil)},
	"many rows":                  {Up: one, Times: zeros(70)},
	"no first row":               {Up: chain3, Times: [][]int{nil, {0, 0, 1}, {0, 1, 2}}},
	"a short row":                {Up: chain3, Times: [][]int{{0, 0, 0}, {0, 0}, {0, 1, 2}}},
	"a short last row":           {Up: chain3, Times: [][]int{{0, 0, 0}, {0, 0, 1}, {0, 1}}},
	"a long row":                 {Up: chain3, Times: [][]int{{0, 0, 0, 0}, {0, 0, 1}, {0, 1, 2}}},
	"a long last row":            {Up: chain3, Times: [][]int{{0, 0, 0}, {0, 0, 1}, {0, 1, 2, 2}}},
	"a very long row":            {Up: one, Times: [][]int{make([]int, 70)}},
	"long rows":                  {Up: two, Times: [][]int{{0, 0, 0}, {0, 1, 1}, {0, 1, 2}}},
	"a negative product":         {Up: chain3, Times: [][]int{{0, 0, 0}, {0, -1, 1}, {0, 1, 2}}},
	"a very negative product":    {Up: one, Times: [][]int{{math.MinInt}}},
	"a product past the last":    {Up: chain3, Times: [][]int{{0, 0, 0}, {0, 3, 1}, {0, 1, 2}}},
	"a product past MaxSize":     {Up: chain3, Times: [][]int{{0, 0, 0}, {0, 6, 1}, {0, 1, 2}}},
	"a great product":            {Up: one, Times: [][]int{{math.MaxInt}}},
	"not the same both ways":     {Up: square, Times: [][]int{{0, 0, 0, 0}, {0, 0, 1, 1}, {0, 0, 2, 2}, {0, 1, 2, 3}}},
	"not the same for three":     {Up: []int{15, 14, 12, 8}, Times: [][]int{{0, 0, 0, 0}, {0, 0, 1, 1}, {0, 1, 1, 2}, {0, 1, 2, 3}}},
	"not with the greatest":      {Up: chain3, Times: zeros(3)},
	"not with the greatest of 2": {Up: two, Times: zeros(2)},
	"not with the least of 2":    {Up: two, Times: [][]int{{0, 0}, {1, 1}}},
	"nor with the least of 2":    {Up: two, Times: [][]int{{1, 0}, {0, 1}}},
	"not over joins of 3":        {Up: chain3, Times: [][]int{{0, 0, 0}, {0, 2, 1}, {0, 1, 2}}},
	"not over joins of 4":        {Up: square, Times: [][]int{{0, 0, 0, 0}, {0, 0, 0, 1}, {0, 0, 0, 2}, {0, 1, 2, 3}}},
	"meets of the diamond":       {Up: diamond, Times: [][]int{{0, 0, 0, 0, 0}, {0, 1, 0, 0, 1}, {0, 0, 2, 0, 2}, {0, 0, 0, 3, 3}, {0, 1, 2, 3, 4}}},
	"none of the pentagon":       {Up: pentagon, Times: [][]int{{0, 0, 0, 0, 0}, {0, 0, 0, 0, 1}, {0, 0, 0, 0, 2}, {0, 0, 0, 0, 3}, {0, 1, 2, 3, 4}}},
}

// TestValidAlgebraLaws tells which laws the ones without an algebra break, so
// that each law is broken alone. That of the least element can't be: it follows
// from all others, and is broken together with one of them.
func TestValidAlgebraLaws(t *testing.T) {
	for name, want := range map[string][]law{
		"not the same both ways":     {sameBothWays},
		"not the same for three":     {sameForThree},
		"not with the greatest":      {withGreatest},
		"not with the greatest of 2": {withGreatest},
		"not with the least of 2":    {sameBothWays, withLeast},
		"nor with the least of 2":    {withLeast, overJoins},
		"not over joins of 3":        {overJoins},
		"not over joins of 4":        {overJoins},
		"meets of the diamond":       {overJoins},
		"none of the pentagon":       {overJoins},
	} {
		_, joins := plainTables(noAlgebras[name].Up)
		if got := brokenLaws(joins, noAlgebras[name].Times); !slices.Equal(got, want) {
			t.Errorf("%s: %v", name, got)
		}
	}
}

// checkValidAlgebra holds ValidAlgebra against the words of the document for
// all products of the choices, row by row.
func checkValidAlgebra(t *testing.T, up []int, choices []int, want int) {
	t.Helper()
	count, n := 0, len(up)
	choose(slices.Repeat([][]int{choices}, n*n), func(list []int) {
		a := impl.Algebra{Up: up, Times: slices.Collect(slices.Chunk(list, n))}
		got := impl.ValidAlgebra(a)
		if got != plainAlgebra(a) {
			t.Fatalf("ValidAlgebra(%v) = %t", a, got)
		}
		if got {
			count++
		}
	})
	if count != want {
		t.Errorf("%d algebras on %v, want %d", count, up, want)
	}
}

func TestValidAlgebraSmall(t *testing.T) {
	checkValidAlgebra(t, one, []int{-2, -1, 0, 1, 2, 6, math.MaxInt}, 1)
	checkValidAlgebra(t, two, []int{-1, 0, 1, 2}, 1)
	checkValidAlgebra(t, chain3, []int{0, 1, 2}, 2)
}

// TestValidAlgebraCounts: up to names of their elements there are 1, 1, 2, 7,
// 26 and 129 algebras, and 1, 1, 2, 6, 22 and 94 of these are chains.
func TestValidAlgebraCounts(t *testing.T) {
	chains := map[int]int{}
	for _, a := range everyAlgebra() {
		if !impl.ValidAlgebra(a) {
			t.Fatalf("ValidAlgebra(%v)", a)
		}
		if slices.Equal(a.Up, impl.ChainOf(len(a.Up))) {
			chains[len(a.Up)]++
		}
	}
	for n, want := range map[int]int{1: 1, 2: 1, 3: 2, 4: 6, 5: 22, 6: 94} {
		if chains[n] != want {
			t.Errorf("%d algebras on the chain of %d, want %d", chains[n], n, want)
		}
	}
	if got := len(everyAlgebra()); got != 1+1+2+13+147+158 {
		t.Errorf("%d algebras", got)
	}
}

// TestValidAlgebraChanged tries all algebras with one or two products changed.
func TestValidAlgebraChanged(t *testing.T) {
	for _, a := range everyAlgebra() {
		n := len(a.Up)
		_, joins := plainTables(a.Up)
		check := func(changed impl.Algebra) {
			want := hasShape(n, changed.Times) && len(brokenLaws(joins, changed.Times)) == 0
			if got := impl.ValidAlgebra(changed); got != want {
				t.Fatalf("ValidAlgebra(%v) = %t", changed, got)
			}
		}
		for x := range n {
			for y := range n {
				for z := -1; z <= n; z++ {
					changed := cloned(a)
					changed.Times[x][y] = z
					check(changed)
					changed.Times[y][x] = z
					check(changed)
				}
			}
		}
	}
}

// TestNoAlgebra checks the fixed result of each function for what is no algebra.
func TestNoAlgebra(t *testing.T) {
	for name, a := range noAlgebras {
		if impl.ValidAlgebra(a) || plainAlgebra(a) {
			t.Errorf("%s: ValidAlgebra", name)
		}
		for x := -1; x <= len(a.Up); x++ {
			for y := -1; y <= len(a.Up); y++ {
				if impl.ImplyOf(a, x, y) != -1 || impl.NearOf(a, x, y) != -1 {
					t.Errorf("%s: ImplyOf, NearOf %d, %d", name, x, y)
				}
			}
			for k := -1; k <= 21; k++ {
				if impl.PowerOf(a, x, k) != -1 {
					t.Errorf("%s: PowerOf %d, %d", name, x, k)
				}
			}
			if k, ok := impl.DepthOf(a, x); k != 0 || ok || impl.NotOf(a, x) != -1 {
				t.Errorf("%s: DepthOf, NotOf %d", name, x)
			}
		}
		for _, p := range append(properties, noProperties...) {
			if impl.HasProperty(p, a) {
				t.Errorf("%s: HasProperty %q", name, p)
			}
		}
		if impl.SharpOf(a) != nil || impl.FixedOf(a) != nil {
			t.Errorf("%s: SharpOf, FixedOf", name)
		}
		for _, b := range []impl.Algebra{a, oneOnly, sum3} {
			for _, two := range [][2]impl.Algebra{{a, b}, {b, a}} {
				stack, isStack := impl.StackAlgebras(two[0], two[1])
				cross, isCross := impl.CrossAlgebras(two[0], two[1])
				if isStack || isCross || !isZero(stack) || !isZero(cross) {
					t.Errorf("%s: StackAlgebras, CrossAlgebras", name)
				}
			}
		}
	}
}

// TestNoElementOfAlgebra checks the fixed result of each function for numbers
// that are no elements of the algebra.
func TestNoElementOfAlgebra(t *testing.T) {
	for _, a := range []impl.Algebra{oneOnly, sum3, meet3, drastic4, square4} {
		for _, no := range outsideOf(a.Up) {
			for x := range a.Up {
				for _, two := range [][2]int{{x, no}, {no, x}, {no, no}} {
					if impl.ImplyOf(a, two[0], two[1]) != -1 || impl.NearOf(a, two[0], two[1]) != -1 {
						t.Errorf("ImplyOf, NearOf(%v, %v)", a, two)
					}
				}
			}
			for k := range 21 {
				if impl.PowerOf(a, no, k) != -1 {
					t.Errorf("PowerOf(%v, %d, %d)", a, no, k)
				}
			}
			if k, ok := impl.DepthOf(a, no); k != 0 || ok || impl.NotOf(a, no) != -1 {
				t.Errorf("DepthOf, NotOf(%v, %d)", a, no)
			}
		}
	}
}

// TestOneElementAlgebra: the one element is the least and the greatest one, so
// that its power 0 is the least one.
func TestOneElementAlgebra(t *testing.T) {
	a := oneOnly
	if !impl.ValidAlgebra(a) || impl.ImplyOf(a, 0, 0) != 0 || impl.NotOf(a, 0) != 0 || impl.NearOf(a, 0, 0) != 0 {
		t.Error("what one element implies")
	}
	for k := range 21 {
		if impl.PowerOf(a, 0, k) != 0 {
			t.Errorf("PowerOf %d", k)
		}
	}
	if k, ok := impl.DepthOf(a, 0); k != 0 || !ok {
		t.Errorf("DepthOf = %d, %t", k, ok)
	}
	for _, p := range properties {
		if !impl.HasProperty(p, a) {
			t.Errorf("HasProperty(%q)", p)
		}
	}
	if !slices.Equal(impl.SharpOf(a), []int{0}) || !slices.Equal(impl.FixedOf(a), []int{0}) {
		t.Error("SharpOf, FixedOf")
	}
	made, ok := impl.MeetAlgebra(one)
	sum, isSum := impl.SumChain(1)
	stack, isStack := impl.StackAlgebras(a, a)
	cross, isCross := impl.CrossAlgebras(a, a)
	if !ok || !isSum || !isStack || !isCross {
		t.Error("algebras of one element are not made")
	}
	for _, b := range []impl.Algebra{made, sum, stack, cross} {
		if !sameAlgebra(b, a) {
			t.Errorf("algebra of one element = %v", b)
		}
	}
}

// plainImply, plainNot and plainNear follow the document's words for algebras.
func plainImply(a impl.Algebra, x, y int) int {
	return bestBelow(len(a.Up),
		func(z int) bool { return below(a.Up, a.Times[x][z], y) },
		func(z, w int) bool { return below(a.Up, z, w) })
}

func plainNot(a impl.Algebra, x int) int {
	return plainImply(a, x, 0)
}

func plainNear(a impl.Algebra, x, y int) int {
	return a.Times[plainImply(a, x, y)][plainImply(a, y, x)]
}

func plainPower(a impl.Algebra, x, k int) int {
	if k == 0 {
		return len(a.Up) - 1
	}
	return a.Times[x][plainPower(a, x, k-1)]
}

// TestImplications holds ImplyOf, NotOf, NearOf, PowerOf and DepthOf against
// the words of the document in all algebras.
func TestImplications(t *testing.T) {
	for _, a := range everyAlgebra() {
		for x := range a.Up {
			for y := range a.Up {
				if got := impl.ImplyOf(a, x, y); got != plainImply(a, x, y) {
					t.Fatalf("ImplyOf(%v, %d, %d) = %d", a, x, y, got)
				}
				if got := impl.NearOf(a, x, y); got != plainNear(a, x, y) {
					t.Fatalf("NearOf(%v, %d, %d) = %d", a, x, y, got)
				}
			}
			if got := impl.NotOf(a, x); got != plainNot(a, x) {
				t.Fatalf("NotOf(%v, %d) = %d", a, x, got)
			}
			depth, ends := 0, false
			for k := 20; k >= 0; k-- {
				power := plainPower(a, x, k)
				if got := impl.PowerOf(a, x, k); got != power {
					t.Fatalf("PowerOf(%v, %d, %d) = %d", a, x, k, got)
				}
				if power == 0 {
					depth, ends = k, true
				}
			}
			if k, ok := impl.DepthOf(a, x); k != depth || ok != ends {
				t.Fatalf("DepthOf(%v, %d) = %d, %t", a, x, k, ok)
			}
		}
	}
}

// TestNeverEnding: the powers of some elements never are the least one.
func TestNeverEnding(t *testing.T) {
	chain6, _ := impl.SumChain(6)
	meets6, _ := impl.MeetAlgebra(impl.ChainOf(6))
	for x, want := range []int{1, 2, 2, 3, 5} {
		if k, ok := impl.DepthOf(chain6, x); !ok || k != want {
			t.Errorf("DepthOf(SumChain(6), %d) = %d, %t", x, k, ok)
		}
		if k, ok := impl.DepthOf(meets6, x); ok != (x == 0) || ok && k != 1 || !ok && k != 0 {
			t.Errorf("DepthOf the meets, %d = %d, %t", x, k, ok)
		}
	}
	for _, a := range everyAlgebra() {
		last := len(a.Up) - 1
		if k, ok := impl.DepthOf(a, last); last > 0 && (ok || k != 0) {
			t.Errorf("DepthOf(%v, %d) = %d", a, last, k)
		}
		if k, ok := impl.DepthOf(a, 0); last > 0 && (!ok || k != 1) {
			t.Errorf("DepthOf(%v, 0) = %d, %t", a, k, ok)
		}
	}
}

// TestPowerBounds: the power 0 of 0 is the greatest element, 20 is a power, and
// -1 and 21 are none.
func TestPowerBounds(t *testing.T) {
	if impl.MaxPower != 20 {
		t.Error("MaxPower")
	}
	for _, a := range []impl.Algebra{oneOnly, sum3, meet3, drastic4, square4} {
		last := len(a.Up) - 1
		for x := range a.Up {
			for _, k := range []int{-1, -2, 21, 22, 64, math.MinInt, math.MaxInt} {
				if got := impl.PowerOf(a, x, k); got != -1 {
					t.Errorf("PowerOf(%v, %d, %d) = %d", a, x, k, got)
				}
			}
			if impl.PowerOf(a, x, 0) != last || impl.PowerOf(a, x, 1) != x || impl.PowerOf(a, last, 20) != last {
				t.Errorf("PowerOf(%v, %d)", a, x)
			}
		}
	}
	if impl.PowerOf(meet3, 1, 20) != 1 || impl.PowerOf(sum3, 1, 20) != 0 || impl.PowerOf(square4, 2, 20) != 2 {
		t.Error("PowerOf 20")
	}
}

// plainProperty follows the document's words for HasProperty.
func plainProperty(name string, a impl.Algebra) bool {
	for x := range a.Up {
		for y := range a.Up {
			var holds bool
			switch name {
			case "prelinear":
				holds = plainJoin(a.Up, plainImply(a, x, y), plainImply(a, y, x)) == len(a.Up)-1
			case "divisible":
				holds = a.Times[x][plainImply(a, x, y)] == plainMeet(a.Up, x, y)
			case "involutive":
				holds = plainNot(a, plainNot(a, x)) == x
			case "idempotent":
				holds = a.Times[x][x] == x
			case "boolean":
				holds = plainJoin(a.Up, x, plainNot(a, x)) == len(a.Up)-1
			}
			if !holds {
				return false
			}
		}
	}
	return true
}

// TestProperties holds HasProperty, SharpOf and FixedOf against the words of
// the document in all algebras; each property is there and not there.
func TestProperties(t *testing.T) {
	for _, name := range properties {
		count := 0
		for _, a := range everyAlgebra() {
			got := impl.HasProperty(name, a)
			if got != plainProperty(name, a) {
				t.Fatalf("HasProperty(%q, %v) = %t", name, a, got)
			}
			if got {
				count++
			}
		}
		if count == 0 || count == len(everyAlgebra()) {
			t.Errorf("%d algebras are %s", count, name)
		}
	}
	for _, a := range everyAlgebra() {
		var sharp, fixed []int
		for x := range a.Up {
			if plainJoin(a.Up, x, plainNot(a, x)) == len(a.Up)-1 {
				sharp = append(sharp, x)
			}
			if a.Times[x][x] == x {
				fixed = append(fixed, x)
			}
		}
		if got := impl.SharpOf(a); !slices.Equal(got, sharp) {
			t.Fatalf("SharpOf(%v) = %v", a, got)
		}
		if got := impl.FixedOf(a); !slices.Equal(got, fixed) {
			t.Fatalf("FixedOf(%v) = %v", a, got)
		}
		for _, name := range noProperties {
			if impl.HasProperty(name, a) {
				t.Fatalf("HasProperty(%q)", name)
			}
		}
	}
}

// P7: IsDistributive holds exactly if it holds of TurnedLattice, and exactly if
// MeetAlgebra is an algebra.
func TestPromise07(t *testing.T) {
	for _, up := range everyLattice() {
		is := impl.IsDistributive(up)
		if impl.IsDistributive(impl.TurnedLattice(up)) != is {
			t.Fatalf("IsDistributive(TurnedLattice(%v)) = %t", up, !is)
		}
		a, ok := impl.MeetAlgebra(up)
		if ok != is || impl.ValidAlgebra(a) != is || !ok && !isZero(a) {
			t.Fatalf("MeetAlgebra(%v) = %v, %t", up, a, ok)
		}
	}
	for name, up := range noLattices {
		if a, ok := impl.MeetAlgebra(up); ok || !isZero(a) {
			t.Errorf("%s: MeetAlgebra", name)
		}
	}
}

// P13: a product is at most both, and with the greatest element each is itself.
// The products are those of all that ValidAlgebra tells to be algebras, not of
// everyAlgebra, which has been made so.
func TestPromise13(t *testing.T) {
	for _, up := range [][]int{one, two, chain3, {15, 14, 12, 8}, square} {
		n := len(up)
		middle := max(n-2, 0)
		choose(slices.Repeat([][]int{numbersFrom(0, n)}, middle*middle), func(list []int) {
			a := impl.Algebra{Up: up, Times: zeros(n)}
			for x := range n {
				a.Times[x][n-1], a.Times[n-1][x] = x, x
			}
			for i, z := range list {
				a.Times[1+i/middle][1+i%middle] = z
			}
			if impl.ValidAlgebra(a) {
				checkProducts(t, a)
			} else if plainAlgebra(a) {
				t.Fatalf("ValidAlgebra(%v)", a)
			}
		})
	}
	for _, a := range everyAlgebra() {
		checkProducts(t, a)
	}
}

func checkProducts(t *testing.T, a impl.Algebra) {
	t.Helper()
	last := len(a.Up) - 1
	for x, row := range a.Times {
		if row[last] != x || a.Times[last][x] != x {
			t.Fatalf("products of %v with the greatest element", a)
		}
		for y, product := range row {
			if !impl.IsBelow(a.Up, product, x) || !impl.IsBelow(a.Up, product, y) || !impl.IsBelow(a.Up, product, impl.MeetOf(a.Up, x, y)) {
				t.Fatalf("product of %d and %d in %v", x, y, a)
			}
		}
	}
}

// P14: a product is at most an element exactly if the other factor is at most
// ImplyOf.
func TestPromise14(t *testing.T) {
	for _, a := range everyAlgebra() {
		for x := range a.Up {
			for z := range a.Up {
				implied := impl.ImplyOf(a, x, z)
				for y := range a.Up {
					if impl.IsBelow(a.Up, a.Times[x][y], z) != impl.IsBelow(a.Up, y, implied) {
						t.Fatalf("ImplyOf(%v, %d, %d) = %d, but %d", a, x, z, implied, y)
					}
				}
			}
		}
	}
	if impl.ImplyOf(sum3, 1, 0) != 1 || impl.ImplyOf(meet3, 1, 0) != 0 || impl.ImplyOf(drastic4, 2, 1) != 2 || impl.ImplyOf(square4, 1, 2) != 2 || impl.ImplyOf(sum3, 0, 0) != 2 {
		t.Error("ImplyOf")
	}
}

// P15: NotOf is ImplyOf the least element, an element is at most NotOf NotOf
// it, and NotOf this is NotOf it.
func TestPromise15(t *testing.T) {
	for _, a := range everyAlgebra() {
		for x := range a.Up {
			not := impl.NotOf(a, x)
			twice := impl.NotOf(a, not)
			if not != impl.ImplyOf(a, x, 0) || !impl.IsBelow(a.Up, x, twice) || impl.NotOf(a, twice) != not {
				t.Fatalf("NotOf(%v, %d) = %d", a, x, not)
			}
		}
	}
}

// P16: NearOf is the same both ways, the greatest element for equal ones alone,
// and the product of two is at most that of the ends.
func TestPromise16(t *testing.T) {
	for _, a := range everyAlgebra() {
		n := len(a.Up)
		near := zeros(n)
		for x := range n {
			for y := range n {
				near[x][y] = impl.NearOf(a, x, y)
			}
		}
		for x := range n {
			for y := range n {
				if near[x][y] != near[y][x] || (near[x][y] == n-1) != (x == y) {
					t.Fatalf("NearOf(%v, %d, %d) = %d", a, x, y, near[x][y])
				}
				for z := range n {
					if !impl.IsBelow(a.Up, a.Times[near[x][y]][near[y][z]], near[x][z]) {
						t.Fatalf("NearOf(%v) at %d, %d, %d", a, x, y, z)
					}
				}
			}
		}
	}
	if impl.NearOf(sum3, 0, 2) != 0 || impl.NearOf(sum3, 0, 1) != 1 || impl.NearOf(meet3, 1, 2) != 1 || impl.NearOf(square4, 1, 2) != 0 {
		t.Error("NearOf")
	}
}

// P17: PowerOf of one more is the product with the element, and at most it.
func TestPromise17(t *testing.T) {
	for _, a := range everyAlgebra() {
		for x := range a.Up {
			for k := range 20 {
				power, next := impl.PowerOf(a, x, k), impl.PowerOf(a, x, k+1)
				if next != a.Times[power][x] || !impl.IsBelow(a.Up, next, power) || !impl.IsBelow(a.Up, next, x) {
					t.Fatalf("PowerOf(%v, %d, %d) = %d", a, x, k+1, next)
				}
			}
		}
	}
}

// P19: HasProperty boolean holds exactly if idempotent and involutive do, and
// prelinear and divisible algebras are distributive.
func TestPromise19(t *testing.T) {
	for _, a := range everyAlgebra() {
		both := impl.HasProperty("idempotent", a) && impl.HasProperty("involutive", a)
		if impl.HasProperty("boolean", a) != both {
			t.Fatalf("HasProperty boolean of %v", a)
		}
		if (impl.HasProperty("prelinear", a) || impl.HasProperty("divisible", a)) && !impl.IsDistributive(a.Up) {
			t.Fatalf("IsDistributive(%v)", a.Up)
		}
	}
}

// P21: products and joins of two of FixedOf are among them, and all are exactly
// if the algebra is idempotent.
func TestPromise21(t *testing.T) {
	for _, a := range everyAlgebra() {
		fixed := impl.FixedOf(a)
		for _, x := range fixed {
			for _, y := range fixed {
				if !slices.Contains(fixed, a.Times[x][y]) || !slices.Contains(fixed, impl.JoinOf(a.Up, x, y)) {
					t.Fatalf("FixedOf(%v) = %v", a, fixed)
				}
			}
		}
		if (len(fixed) == len(a.Up)) != impl.HasProperty("idempotent", a) || !slices.IsSorted(fixed) {
			t.Fatalf("FixedOf(%v) = %v", a, fixed)
		}
	}
}

// P22: MeetAlgebra is an algebra, idempotent and divisible, and its products
// are meets.
func TestPromise22(t *testing.T) {
	for _, up := range everyLattice() {
		a, ok := impl.MeetAlgebra(up)
		if !ok {
			continue
		}
		if !impl.ValidAlgebra(a) || !slices.Equal(a.Up, up) || !impl.HasProperty("idempotent", a) || !impl.HasProperty("divisible", a) {
			t.Fatalf("MeetAlgebra(%v) = %v", up, a)
		}
		for x := range up {
			for y := range up {
				if a.Times[x][y] != plainMeet(up, x, y) {
					t.Fatalf("MeetAlgebra(%v) = %v", up, a)
				}
			}
		}
	}
	if a, ok := impl.MeetAlgebra(chain3); !ok || !sameAlgebra(a, meet3) {
		t.Errorf("MeetAlgebra = %v", a)
	}
	if a, ok := impl.MeetAlgebra(square); !ok || !sameAlgebra(a, square4) {
		t.Errorf("MeetAlgebra = %v", a)
	}
}

// TestSumChain: the words of the document; TestPromise23 holds the rest.
func TestSumChain(t *testing.T) {
	for n := 1; n <= 6; n++ {
		a, ok := impl.SumChain(n)
		if !ok || !impl.ValidAlgebra(a) || !slices.Equal(a.Up, impl.ChainOf(n)) {
			t.Fatalf("SumChain(%d) = %v, %t", n, a, ok)
		}
		for x := range n {
			for y := range n {
				if a.Times[x][y] != max(0, x+y+1-n) {
					t.Fatalf("SumChain(%d) = %v", n, a)
				}
			}
		}
	}
	if a, _ := impl.SumChain(3); !sameAlgebra(a, sum3) {
		t.Errorf("SumChain(3) = %v", a)
	}
	for _, n := range []int{0, -1, -2, 7, 8, 63, 64, 1000, math.MinInt, math.MaxInt} {
		if a, ok := impl.SumChain(n); ok || !isZero(a) {
			t.Errorf("SumChain(%d) = %v", n, a)
		}
	}
}

// stacked follows the document's words for StackAlgebras.
func stacked(a, b impl.Algebra) impl.Algebra {
	floor := len(a.Up) - 1
	n := floor + len(b.Up)
	s := impl.Algebra{Up: make([]int, n), Times: zeros(n)}
	for x := range n {
		for y := range n {
			is, product := x < floor, min(x, y)
			switch {
			case x < floor && y < floor:
				is, product = below(a.Up, x, y), a.Times[x][y]
			case x >= floor && y >= floor:
				is, product = below(b.Up, x-floor, y-floor), floor+b.Times[x-floor][y-floor]
			}
			if is {
				s.Up[x] |= 1 << y
			}
			s.Times[x][y] = product
		}
	}
	return s
}

// P24: StackAlgebras is an algebra, divisible or idempotent exactly if both
// are, and a chain exactly if both are.
func TestPromise24(t *testing.T) {
	for _, a := range everyAlgebra() {
		for _, b := range everyAlgebra() {
			s, ok := impl.StackAlgebras(a, b)
			if len(a.Up)+len(b.Up) > 7 {
				if ok || !isZero(s) {
					t.Fatalf("StackAlgebras(%v, %v) = %v", a, b, s)
				}
				continue
			}
			if !ok || !impl.ValidAlgebra(s) || !sameAlgebra(s, stacked(a, b)) {
				t.Fatalf("StackAlgebras(%v, %v) = %v", a, b, s)
			}
			for _, p := range []string{"divisible", "idempotent"} {
				if impl.HasProperty(p, s) != (impl.HasProperty(p, a) && impl.HasProperty(p, b)) {
					t.Fatalf("StackAlgebras(%v, %v) is not as %s as both", a, b, p)
				}
			}
			if impl.IsChain(s.Up) != (impl.IsChain(a.Up) && impl.IsChain(b.Up)) {
				t.Fatalf("StackAlgebras(%v, %v) is no chain as both", a, b)
			}
		}
	}
	if s, _ := impl.StackAlgebras(square4, oneOnly); !sameAlgebra(s, square4) {
		t.Errorf("StackAlgebras with one above = %v", s)
	}
	if s, _ := impl.StackAlgebras(oneOnly, square4); !sameAlgebra(s, square4) {
		t.Errorf("StackAlgebras with one below = %v", s)
	}
	s, _ := impl.StackAlgebras(square4, sum3)
	want := impl.Algebra{Up: []int{63, 58, 60, 56, 48, 32}, Times: [][]int{{0, 0, 0, 0, 0, 0}, {0, 1, 0, 1, 1, 1}, {0, 0, 2, 2, 2, 2}, {0, 1, 2, 3, 3, 3}, {0, 1, 2, 3, 3, 4}, {0, 1, 2, 3, 4, 5}}}
	if !sameAlgebra(s, want) {
		t.Errorf("StackAlgebras = %v", s)
	}
}

// TestCrossAlgebras: the words of the document; TestPromise25 holds the rest.
func TestCrossAlgebras(t *testing.T) {
	for _, a := range everyAlgebra() {
		for _, b := range everyAlgebra() {
			c, ok := impl.CrossAlgebras(a, b)
			if len(a.Up)*len(b.Up) > 6 {
				if ok || !isZero(c) {
					t.Fatalf("CrossAlgebras(%v, %v) = %v", a, b, c)
				}
				continue
			}
			if !ok || !impl.ValidAlgebra(c) || !slices.Equal(c.Up, impl.CrossLattices(a.Up, b.Up)) {
				t.Fatalf("CrossAlgebras(%v, %v) = %v", a, b, c)
			}
			n := len(b.Up)
			for p := range c.Up {
				for q := range c.Up {
					if c.Times[p][q] != n*a.Times[p/n][q/n]+b.Times[p%n][q%n] {
						t.Fatalf("CrossAlgebras(%v, %v) = %v", a, b, c)
					}
				}
			}
		}
	}
	two, _ := impl.SumChain(2)
	if c, _ := impl.CrossAlgebras(two, two); !sameAlgebra(c, square4) {
		t.Errorf("CrossAlgebras = %v", c)
	}
	c, _ := impl.CrossAlgebras(two, sum3)
	want := impl.Algebra{Up: []int{63, 54, 36, 56, 48, 32}, Times: [][]int{{0, 0, 0, 0, 0, 0}, {0, 0, 1, 0, 0, 1}, {0, 1, 2, 0, 1, 2}, {0, 0, 0, 3, 3, 3}, {0, 0, 1, 3, 3, 4}, {0, 1, 2, 3, 4, 5}}}
	if !sameAlgebra(c, want) {
		t.Errorf("CrossAlgebras = %v", c)
	}
}

// TestAlgebrasKept: no function changes its arguments, and no result shares
// memory with them.
func TestAlgebrasKept(t *testing.T) {
	arguments := slices.Clone(everyAlgebra())
	for _, a := range noAlgebras {
		arguments = append(arguments, a)
	}
	for _, plain := range arguments {
		a, kept := guardedAlgebra(plain)
		b, otherKept := guardedAlgebra(sum3)
		impl.ValidAlgebra(a)
		for _, p := range properties {
			impl.HasProperty(p, a)
		}
		for x := range a.Up {
			impl.NotOf(a, x)
			impl.PowerOf(a, x, 20)
			impl.DepthOf(a, x)
			for y := range a.Up {
				impl.ImplyOf(a, x, y)
				impl.NearOf(a, x, y)
			}
		}
		scribble(impl.SharpOf(a))
		scribble(impl.FixedOf(a))
		meets, _ := impl.MeetAlgebra(a.Up)
		scribbleAll(meets)
		for _, two := range [][2]impl.Algebra{{a, b}, {b, a}, {a, a}, {a, oneOnly}, {oneOnly, a}} {
			stack, _ := impl.StackAlgebras(two[0], two[1])
			cross, _ := impl.CrossAlgebras(two[0], two[1])
			scribbleAll(stack)
			scribbleAll(cross)
		}
		if !kept() || !otherKept() {
			t.Fatalf("the argument %v is %v", plain, a)
		}
	}
	if !sameAlgebra(oneOnly, impl.Algebra{Up: []int{1}, Times: [][]int{{0}}}) {
		t.Fatal("a result shares memory with the algebra of one element")
	}
}

// TestAlgebrasApart: no two lists of a result share memory, and what is done to
// a result changes no later one.
func TestAlgebrasApart(t *testing.T) {
	for name, call := range map[string]func() (impl.Algebra, bool){
		"MeetAlgebra":   func() (impl.Algebra, bool) { return impl.MeetAlgebra(grid) },
		"SumChain":      func() (impl.Algebra, bool) { return impl.SumChain(6) },
		"StackAlgebras": func() (impl.Algebra, bool) { return impl.StackAlgebras(sum3, square4) },
		"CrossAlgebras": func() (impl.Algebra, bool) { return impl.CrossAlgebras(two2(), sum3) },
	} {
		before, ok := call()
		if !ok || !areApart(func() [][]int { a, _ := call(); return listsOf(a) }) {
			t.Errorf("%s: two lists share memory", name)
		}
		after, _ := call()
		scribbleAll(after)
		if after, _ = call(); !sameAlgebra(before, after) {
			t.Errorf("%s: a result is another one later", name)
		}
	}
}

// two2 is the algebra of two elements.
func two2() impl.Algebra {
	return impl.Algebra{Up: []int{3, 2}, Times: [][]int{{0, 0}, {0, 1}}}
}
