package tests

import (
	"slices"
	"testing"

	"loop.example/residuatedtables/impl"
)

// productsOf are all products of an algebra, row by row.
func productsOf(a impl.Algebra) []int {
	return slices.Concat(a.Times...)
}

// TestChainsPlain holds ChainsOf against the words of the document for all
// tables of at most 4 elements, bounds free for at most 3, and against the
// algebras on the chain for 5.
func TestChainsPlain(t *testing.T) {
	for n := 1; n <= 3; n++ {
		var want []impl.Algebra
		choose(slices.Repeat([][]int{numbersFrom(0, n)}, n*n), func(list []int) {
			a := impl.Algebra{Up: chainUp(n), Times: slices.Collect(slices.Chunk(list, n))}
			if plainAlgebra(a) {
				want = append(want, cloned(a))
			}
		})
		checkChains(t, n, want)
	}
	var want []impl.Algebra
	choose(slices.Repeat([][]int{numbersFrom(0, 4)}, 4), func(p []int) {
		a := impl.Algebra{Up: chainUp(4), Times: [][]int{{0, 0, 0, 0}, {0, p[0], p[1], 1}, {0, p[2], p[3], 2}, {0, 1, 2, 3}}}
		if plainAlgebra(a) {
			want = append(want, a)
		}
	})
	checkChains(t, 4, want)
	five := algebrasOn(chainUp(5))
	slices.SortFunc(five, func(a, b impl.Algebra) int { return slices.Compare(productsOf(a), productsOf(b)) })
	checkChains(t, 5, five)
}

func checkChains(t *testing.T, n int, want []impl.Algebra) {
	t.Helper()
	if got := impl.ChainsOf(n); !slices.EqualFunc(got, want, sameAlgebra) {
		t.Errorf("ChainsOf(%d) = %v, want %v", n, got, want)
	}
}

// TestChainsFixed: the chains of few elements by hand, and how many there are of
// more.
func TestChainsFixed(t *testing.T) {
	four := [][][]int{
		{{0, 0, 0, 0}, {0, 0, 0, 1}, {0, 0, 0, 2}, {0, 1, 2, 3}},
		{{0, 0, 0, 0}, {0, 0, 0, 1}, {0, 0, 1, 2}, {0, 1, 2, 3}},
		{{0, 0, 0, 0}, {0, 0, 0, 1}, {0, 0, 2, 2}, {0, 1, 2, 3}},
		{{0, 0, 0, 0}, {0, 0, 1, 1}, {0, 1, 2, 2}, {0, 1, 2, 3}},
		{{0, 0, 0, 0}, {0, 1, 1, 1}, {0, 1, 1, 2}, {0, 1, 2, 3}},
		{{0, 0, 0, 0}, {0, 1, 1, 1}, {0, 1, 2, 2}, {0, 1, 2, 3}},
	}
	var chains []impl.Algebra
	for _, times := range four {
		chains = append(chains, impl.Algebra{Up: []int{15, 14, 12, 8}, Times: times})
	}
	for n, want := range map[int][]impl.Algebra{1: {oneOnly}, 2: {two2()}, 3: {sum3, meet3}, 4: chains} {
		checkChains(t, n, want)
	}
	if got := len(impl.ChainsOf(5)); got != 22 {
		t.Errorf("%d chains of 5", got)
	}
}

// TestNoChains checks the fixed results for numbers of elements of which no
// chains are listed, and for names of no property.
func TestNoChains(t *testing.T) {
	for _, n := range noCounts {
		if got := impl.ChainsOf(n); len(got) != 0 {
			t.Errorf("ChainsOf(%d) = %v", n, got)
		}
		for _, name := range append(slices.Clone(properties), noProperties...) {
			if got := impl.ChainCount(name, n); got != -1 {
				t.Errorf("ChainCount(%q, %d) = %d", name, n, got)
			}
		}
	}
	for n := 1; n <= 5; n++ {
		for _, name := range noProperties {
			if got := impl.ChainCount(name, n); got != -1 {
				t.Errorf("ChainCount(%q, %d) = %d", name, n, got)
			}
		}
	}
}

// TestChainCountPlain holds ChainCount against the words of the document for
// all properties.
func TestChainCountPlain(t *testing.T) {
	for _, name := range properties {
		for n := 1; n <= 5; n++ {
			want := 0
			for _, a := range algebrasOn(chainUp(n)) {
				if plainProperty(name, a) {
					want++
				}
			}
			if got := impl.ChainCount(name, n); got != want {
				t.Errorf("ChainCount(%q, %d) = %d, want %d", name, n, got, want)
			}
		}
	}
	for n, want := range []int{-1, 1, 1, 1, 2, 3, -1} {
		if got := impl.ChainCount("involutive", n); got != want {
			t.Errorf("ChainCount of involutive, %d = %d", n, got)
		}
	}
}

// TestStacksPlain holds StackOfSums and SizesOf against the words of the
// document for all sizes and all algebras.
func TestStacksPlain(t *testing.T) {
	sizesOf := map[string][]int{}
	for _, sizes := range everySizes() {
		want := plainStack(sizes)
		if got, ok := impl.StackOfSums(sizes); !ok || !sameAlgebra(got, want) {
			t.Errorf("StackOfSums(%v) = %v, %t", sizes, got, ok)
		}
		sizesOf[plainText(want)] = sizes
	}
	if len(sizesOf) != 32 {
		t.Errorf("%d stacks", len(sizesOf))
	}
	found := 0
	for _, a := range append(slices.Clone(everyAlgebra()), two3(), swapped4, late5) {
		want, is := sizesOf[plainText(a)]
		if got, ok := impl.SizesOf(a); ok != is || !slices.Equal(got, want) {
			t.Errorf("SizesOf(%v) = %v, %t", a, got, ok)
		}
		if is {
			found++
		}
	}
	if found != len(sizesOf) {
		t.Errorf("%d stacks among the algebras", found)
	}
}

// TestStacksFixed: stacks by hand, of as many elements as there may be, and
// algebras that are none for some reason.
func TestStacksFixed(t *testing.T) {
	meet6, _ := impl.MeetAlgebra(chainUp(6))
	for _, c := range []struct {
		sizes []int
		want  impl.Algebra
	}{
		{[]int{1}, two2()},
		{[]int{2}, sum3},
		{[]int{1, 1}, meet3},
		{[]int{1, 2}, impl.Algebra{Up: []int{15, 14, 12, 8}, Times: [][]int{{0, 0, 0, 0}, {0, 1, 1, 1}, {0, 1, 1, 2}, {0, 1, 2, 3}}}},
		{[]int{2, 1}, impl.Algebra{Up: []int{15, 14, 12, 8}, Times: [][]int{{0, 0, 0, 0}, {0, 0, 1, 1}, {0, 1, 2, 2}, {0, 1, 2, 3}}}},
		{[]int{5}, sums6()},
		{[]int{1, 1, 1, 1, 1}, meet6},
		{[]int{2, 3}, impl.Algebra{Up: []int{63, 62, 60, 56, 48, 32}, Times: [][]int{{0, 0, 0, 0, 0, 0}, {0, 0, 1, 1, 1, 1}, {0, 1, 2, 2, 2, 2}, {0, 1, 2, 2, 2, 3}, {0, 1, 2, 2, 3, 4}, {0, 1, 2, 3, 4, 5}}}},
	} {
		if got, ok := impl.StackOfSums(c.sizes); !ok || !sameAlgebra(got, c.want) {
			t.Errorf("StackOfSums(%v) = %v, %t", c.sizes, got, ok)
		}
		if got, ok := impl.SizesOf(c.want); !ok || !slices.Equal(got, c.sizes) {
			t.Errorf("SizesOf(%v) = %v, %t", c.want, got, ok)
		}
	}
	// The square and the pairs are no chain, the elements of swapped4 and late5
	// are not in order, and drastic4 is not divisible.
	for _, a := range []impl.Algebra{square4, two3(), stack5, swapped4, late5, drastic4} {
		if got, ok := impl.SizesOf(a); ok || got != nil {
			t.Errorf("SizesOf(%v) = %v, %t", a, got, ok)
		}
	}
}

// TestStackOfNothing: no sizes are the algebra of one element, and back.
func TestStackOfNothing(t *testing.T) {
	for _, none := range [][]int{nil, {}, make([]int, 0, 3)} {
		if got, ok := impl.StackOfSums(none); !ok || !sameAlgebra(got, oneOnly) {
			t.Errorf("StackOfSums(%v) = %v, %t", none, got, ok)
		}
	}
	if got, ok := impl.SizesOf(oneOnly); !ok || len(got) != 0 {
		t.Errorf("SizesOf = %v, %t", got, ok)
	}
}

// TestNoSizes checks the fixed results for sizes of which there is no stack.
func TestNoSizes(t *testing.T) {
	for name, sizes := range noSizes {
		if got, ok := impl.StackOfSums(sizes); ok || !isZero(got) {
			t.Errorf("%s: StackOfSums = %v, %t", name, got, ok)
		}
	}
	choose(slices.Repeat([][]int{numbersFrom(-2, 8)}, 3), func(sizes []int) {
		want := slices.Min(sizes) > 0 && sumOf(sizes) <= 5
		if got, ok := impl.StackOfSums(sizes); ok != want || !ok && !isZero(got) {
			t.Fatalf("StackOfSums(%v) = %v, %t", sizes, got, ok)
		}
	})
}

// TestNoAlgebraNoText checks the fixed results for what is no algebra; what its
// text would be is no text of one, either.
func TestNoAlgebraNoText(t *testing.T) {
	for name, a := range noAlgebras {
		if got, ok := impl.SizesOf(a); ok || got != nil {
			t.Errorf("%s: SizesOf = %v, %t", name, got, ok)
		}
		if got := impl.AlgebraText(a); got != "" {
			t.Errorf("%s: AlgebraText = %q", name, got)
		}
		checkNoText(t, name, plainText(a))
	}
}

// checkNoText: the results where there is no algebra of a text.
func checkNoText(t *testing.T, name, s string) {
	t.Helper()
	if got, ok := impl.ParseAlgebra(s); ok || !isZero(got) {
		t.Errorf("%s: ParseAlgebra(%q) = %v, %t", name, s, got, ok)
	}
}

// TestNoText checks the fixed result for texts of no algebra.
func TestNoText(t *testing.T) {
	for name, s := range noTexts {
		if _, is := plainParse(s); is {
			t.Errorf("%s: %q is the text of an algebra", name, s)
		}
		checkNoText(t, name, s)
	}
}

// TestTextsPlain holds AlgebraText against the words of the document in all
// algebras, and ParseAlgebra for their texts with a byte or two changed.
func TestTextsPlain(t *testing.T) {
	others := 0
	for _, a := range append(slices.Clone(everyAlgebra()), two3()) {
		text := plainText(a)
		if got := impl.AlgebraText(a); got != text {
			t.Fatalf("AlgebraText(%v) = %q", a, got)
		}
		for _, s := range changedTexts(text, algebraBytes) {
			want, is := plainParse(s)
			if got, ok := impl.ParseAlgebra(s); ok != is || !sameAlgebra(got, want) {
				t.Fatalf("ParseAlgebra(%q) = %v, %t", s, got, ok)
			}
			if is && s != text {
				others++
			}
		}
	}
	if others == 0 {
		t.Error("no changed text is that of another algebra")
	}
}

// TestTextsFixed: texts by hand, the shortest and a longest one among them.
func TestTextsFixed(t *testing.T) {
	for text, a := range map[string]impl.Algebra{
		"1:0":                            oneOnly,
		"3,2:00/01":                      two2(),
		"7,6,4:000/001/012":              sum3,
		"7,6,4:000/011/012":              meet3,
		"15,10,14,8:0000/0121/0222/0123": swapped4,
		"31,18,30,26,16:00000/01231/02002/03023/01234":                late5,
		"63,54,36,56,48,32:000000/001001/012012/000333/001334/012345": two3(),
		"63,62,60,56,48,32:000000/000001/000012/000123/001234/012345": sums6(),
	} {
		if got := impl.AlgebraText(a); got != text {
			t.Errorf("AlgebraText(%v) = %q", a, got)
		}
		if got, ok := impl.ParseAlgebra(text); !ok || !sameAlgebra(got, a) {
			t.Errorf("ParseAlgebra(%q) = %v, %t", text, got, ok)
		}
	}
}

// P47: ChainsOf are prelinear algebras, none comes twice, and SumChain and
// MeetAlgebra of the chain are among them.
func TestPromise47(t *testing.T) {
	for n := 1; n <= 5; n++ {
		chains := impl.ChainsOf(n)
		for i, a := range chains {
			if !impl.ValidAlgebra(a) || !slices.Equal(a.Up, impl.ChainOf(n)) || !impl.HasProperty("prelinear", a) {
				t.Fatalf("ChainsOf(%d) has %v", n, a)
			}
			if i > 0 && slices.Compare(productsOf(chains[i-1]), productsOf(a)) >= 0 {
				t.Fatalf("ChainsOf(%d) has %v behind %v", n, a, chains[i-1])
			}
		}
		sums, _ := impl.SumChain(n)
		meets, _ := impl.MeetAlgebra(impl.ChainOf(n))
		for _, want := range []impl.Algebra{sums, meets} {
			if !slices.ContainsFunc(chains, func(a impl.Algebra) bool { return sameAlgebra(a, want) }) {
				t.Errorf("ChainsOf(%d) lacks %v", n, want)
			}
		}
	}
}

// P48: ChainCount of prelinear is all ChainsOf, of divisible 2 to 2 less than
// the elements, if these are at least two, of idempotent 1, and of boolean 1 for
// at most two elements, and otherwise 0.
func TestPromise48(t *testing.T) {
	for n := 1; n <= 5; n++ {
		divisible, boolean := 1, 0
		if n >= 2 {
			divisible = 1 << (n - 2)
		}
		if n <= 2 {
			boolean = 1
		}
		for name, want := range map[string]int{"prelinear": len(impl.ChainsOf(n)), "divisible": divisible, "idempotent": 1, "boolean": boolean} {
			if got := impl.ChainCount(name, n); got != want {
				t.Errorf("ChainCount(%q, %d) = %d, want %d", name, n, got, want)
			}
		}
	}
}

// P49: SizesOf StackOfSums is the sizes, and it is a divisible chain of 1 more
// than all sizes.
func TestPromise49(t *testing.T) {
	for _, sizes := range everySizes() {
		a, ok := impl.StackOfSums(sizes)
		if !ok || !impl.ValidAlgebra(a) || !impl.HasProperty("divisible", a) || !impl.IsChain(a.Up) || len(a.Up) != 1+sumOf(sizes) {
			t.Errorf("StackOfSums(%v) = %v, %t", sizes, a, ok)
		}
		if got, fine := impl.SizesOf(a); !fine || !slices.Equal(got, sizes) {
			t.Errorf("SizesOf(%v) = %v, %t", a, got, fine)
		}
	}
}

// P50: StackOfSums of SizesOf is the algebra, and a divisible algebra has sizes
// exactly if its lattice is ChainOf.
func TestPromise50(t *testing.T) {
	others := 0
	for _, a := range append(slices.Clone(everyAlgebra()), two3(), swapped4, late5) {
		sizes, ok := impl.SizesOf(a)
		isChain := slices.Equal(a.Up, impl.ChainOf(len(a.Up)))
		if impl.HasProperty("divisible", a) {
			if ok != isChain {
				t.Errorf("SizesOf(%v) = %v, %t", a, sizes, ok)
			}
			if !isChain && impl.IsChain(a.Up) {
				others++
			}
		}
		if !ok {
			continue
		}
		if got, fine := impl.StackOfSums(sizes); !fine || !sameAlgebra(got, a) {
			t.Errorf("StackOfSums(%v) = %v, not %v", sizes, got, a)
		}
	}
	if others == 0 {
		t.Error("no divisible chain goes by other numbers")
	}
}

// P51: ParseAlgebra of AlgebraText is the algebra.
func TestPromise51(t *testing.T) {
	for _, a := range append(slices.Clone(everyAlgebra()), two3(), swapped4, late5) {
		text := impl.AlgebraText(a)
		if got, ok := impl.ParseAlgebra(text); !ok || !sameAlgebra(got, a) {
			t.Fatalf("ParseAlgebra(%q) = %v, %t", text, got, ok)
		}
	}
}

// P52: AlgebraText of ParseAlgebra is the text. The texts are those that are
// nearly one of an algebra, so that some are read that ought not to be if
// reading is loose.
func TestPromise52(t *testing.T) {
	read := 0
	for _, a := range []impl.Algebra{oneOnly, two2(), sum3, meet3, square4, drastic4, swapped4, stack5, late5, two3(), sums6()} {
		text := plainText(a)
		for _, s := range append(changedTexts(text, algebraBytes), text) {
			b, ok := impl.ParseAlgebra(s)
			if !ok {
				continue
			}
			read++
			if got := impl.AlgebraText(b); got != s {
				t.Errorf("AlgebraText of ParseAlgebra(%q) = %q", s, got)
			}
		}
	}
	if read == 0 {
		t.Error("no text is read")
	}
}

// TestChainsKept: no function changes its arguments, and no result shares memory
// with them.
func TestChainsKept(t *testing.T) {
	lists := everySizes()
	for _, sizes := range noSizes {
		lists = append(lists, sizes)
	}
	for _, plain := range lists {
		sizes, kept := guarded(plain)
		a, _ := impl.StackOfSums(sizes)
		scribbleAll(a)
		if !kept() {
			t.Fatalf("the sizes %v are %v", plain, sizes)
		}
	}
	arguments := slices.Clone(everyAlgebra())
	for _, a := range noAlgebras {
		arguments = append(arguments, a)
	}
	for _, plain := range arguments {
		a, kept := guardedAlgebra(plain)
		sizes, _ := impl.SizesOf(a)
		scribble(sizes)
		read, _ := impl.ParseAlgebra(impl.AlgebraText(a))
		scribbleAll(read)
		if !kept() {
			t.Fatalf("the argument %v is %v", plain, a)
		}
	}
}

// TestChainsApart: no two lists of a result share memory, and what is done to a
// result changes no later one.
func TestChainsApart(t *testing.T) {
	for n := 1; n <= 5; n++ {
		chains := func() [][]int { return listsOfAll(impl.ChainsOf(n)) }
		if !areApart(chains) {
			t.Errorf("ChainsOf(%d): two lists share memory", n)
		}
		checkFresh(t, "ChainsOf", chains)
		checkAlgebrasApart(t, n)
	}
	for _, sizes := range everySizes() {
		stack := func() [][]int { a, _ := impl.StackOfSums(sizes); return listsOf(a) }
		if !areApart(stack) {
			t.Errorf("StackOfSums(%v): two lists share memory", sizes)
		}
		checkFresh(t, "StackOfSums", stack)
		a := plainStack(sizes)
		checkFresh(t, "SizesOf", func() [][]int { got, _ := impl.SizesOf(a); return [][]int{got} })
	}
	for _, a := range everyAlgebra() {
		text := plainText(a)
		read := func() [][]int { b, _ := impl.ParseAlgebra(text); return listsOf(b) }
		if !areApart(read) {
			t.Errorf("ParseAlgebra(%q): two lists share memory", text)
		}
		checkFresh(t, "ParseAlgebra", read)
	}
}

// checkAlgebrasApart: what is done to one algebra of ChainsOf, the lists of its
// rows and the room behind them among it, leaves the other ones as they are.
func checkAlgebrasApart(t *testing.T, n int) {
	t.Helper()
	before := impl.ChainsOf(n)
	for i := range before {
		chains := impl.ChainsOf(n)
		scribbleAll(chains[i])
		for j, a := range chains {
			if i != j && !sameAlgebra(a, before[j]) {
				t.Fatalf("ChainsOf(%d): %d shares memory with %d", n, i, j)
			}
		}
	}
}

// TestRowsEnd: what is appended to a row is in no other one.
func TestRowsEnd(t *testing.T) {
	made := append(impl.ChainsOf(4), impl.ChainsOf(1)...)
	stack, _ := impl.StackOfSums([]int{2, 1, 2})
	read, _ := impl.ParseAlgebra("7,6,4:000/001/012")
	for _, a := range append(made, stack, read) {
		before := cloned(a)
		for _, list := range listsOf(a) {
			_ = append(list, spare)
		}
		if !sameAlgebra(a, before) {
			t.Errorf("%v was %v", a, before)
		}
	}
}
