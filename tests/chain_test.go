package tests

import (
	"fmt"
	"math"
	"regexp"
	"slices"
	"strconv"
	"strings"

	"loop.example/residuatedtables/impl"
)

// noCounts are numbers of elements of which no chains are listed.
var noCounts = []int{0, -1, -2, -3, -5, 6, 7, 8, 63, 64, 65, 1<<32 | 3, math.MinInt, math.MinInt | 3, math.MaxInt}

// chainUp follows the document's words for ChainOf.
func chainUp(n int) []int {
	up := make([]int, n)
	for x := range up {
		for y := x; y < n; y++ {
			up[x] |= 1 << y
		}
	}
	return up
}

// plainSum follows the document's words for SumChain.
func plainSum(n int) impl.Algebra {
	a := impl.Algebra{Up: chainUp(n), Times: zeros(n)}
	for x := range n {
		for y := range n {
			a.Times[x][y] = max(0, x+y+1-n)
		}
	}
	return a
}

// plainStack follows the document's words for StackOfSums.
func plainStack(sizes []int) impl.Algebra {
	if len(sizes) == 0 {
		return plainSum(1)
	}
	return stacked(plainSum(sizes[0]+1), plainStack(sizes[1:]))
}

// everySizes are all sizes of which there is a stack.
func everySizes() [][]int {
	var all [][]int
	var grow func(sizes []int, left int)
	grow = func(sizes []int, left int) {
		all = append(all, slices.Clone(sizes))
		for size := 1; size <= left; size++ {
			grow(append(slices.Clone(sizes), size), left-size)
		}
	}
	grow(nil, 5)
	return all
}

// sumOf is the sum of all sizes.
func sumOf(sizes []int) int {
	sum := 0
	for _, size := range sizes {
		sum += size
	}
	return sum
}

// noSizes are sizes of which there is no stack, each for its own reason.
var noSizes = map[string][]int{
	"0 alone":                   {0},
	"0 first":                   {0, 1},
	"0 last":                    {1, 0},
	"0 between":                 {1, 0, 1},
	"many times 0":              make([]int, 1000),
	"0 behind as many as fit":   {5, 0},
	"negative":                  {-1},
	"negative first":            {-1, 2},
	"negative last":             {2, -1},
	"negative for one too many": {6, -1},
	"negative ahead of it":      {-1, 6},
	"negative behind many":      {3, 3, -2},
	"the least number":          {math.MinInt},
	"the least number behind":   {1, math.MinInt},
	"twice the least number":    {math.MinInt, math.MinInt},
	"one too many":              {6},
	"many too many":             {7},
	"one too many in two":       {3, 3},
	"one too many at the end":   {5, 1},
	"one too many at the start": {1, 5},
	"six ones":                  {1, 1, 1, 1, 1, 1},
	"seven ones":                {1, 1, 1, 1, 1, 1, 1},
	"a thousand ones":           slices.Repeat([]int{1}, 1000),
	"the greatest number":       {math.MaxInt},
	"it behind another one":     {1, math.MaxInt},
	"it ahead of another one":   {math.MaxInt, 1},
	"a sum of 0":                {math.MaxInt, math.MaxInt, 2},
	"a sum of 3":                {math.MaxInt, math.MaxInt, 5},
	"a sum of 5":                {1, math.MaxInt, math.MaxInt, 6},
	"four quarters of a circle": {1 << 62, 1 << 62, 1 << 62, 1 << 62},
	"3 in 32 bits":              {1<<32 | 3},
	"3 in 32 bits, twice":       {1, 1<<32 | 1},
}

// plainText follows the document's words for AlgebraText, for tables that need
// not be an algebra.
func plainText(a impl.Algebra) string {
	var numbers, rows []string
	for _, set := range a.Up {
		numbers = append(numbers, fmt.Sprintf("%d", set))
	}
	for _, row := range a.Times {
		digits := ""
		for _, z := range row {
			digits += fmt.Sprintf("%d", z)
		}
		rows = append(rows, digits)
	}
	return strings.Join(numbers, ",") + ":" + strings.Join(rows, "/")
}

var textShape = regexp.MustCompile(`\A([1-9][0-9]*(?:,[1-9][0-9]*)*):([0-9]+(?:/[0-9]+)*)\z`)

// plainParse follows the document's words for ParseAlgebra: the shape of a text
// is told by an expression, and the rest by the words for algebras.
func plainParse(s string) (impl.Algebra, bool) {
	parts := textShape.FindStringSubmatch(s)
	if parts == nil {
		return impl.Algebra{}, false
	}
	var a impl.Algebra
	for number := range strings.SplitSeq(parts[1], ",") {
		set, err := strconv.Atoi(number)
		if err != nil {
			return impl.Algebra{}, false
		}
		a.Up = append(a.Up, set)
	}
	for digits := range strings.SplitSeq(parts[2], "/") {
		var row []int
		for _, d := range digits {
			row = append(row, int(d-'0'))
		}
		a.Times = append(a.Times, row)
	}
	if !plainAlgebra(a) {
		return impl.Algebra{}, false
	}
	return a, true
}

// noTexts are texts of no algebra, each for its own reason.
var noTexts = map[string]string{
	"nothing":                         "",
	"a colon alone":                   ":",
	"two colons alone":                "::",
	"without a colon":                 "1",
	"no colon but a row":              "10",
	"a slash for the colon":           "1/0",
	"a comma for the colon":           "1,0",
	"rows without a colon":            "7,6,4000/001/012",
	"rows alone":                      ":0",
	"more rows alone":                 ":000/001/012",
	"a word":                          "one",
	"without rows":                    "1:",
	"three elements without rows":     "7,6,4:",
	"slashes without rows":            "7,6,4://",
	"a slash alone":                   "1:/",
	"too few rows":                    "7,6,4:000/001",
	"one row":                         "7,6,4:000",
	"too many rows":                   "7,6,4:000/001/012/012",
	"two rows for one":                "1:0/0",
	"many rows for one":               "1:0/0/0/0/0/0/0/0",
	"a short first row":               "7,6,4:00/001/012",
	"a short row":                     "7,6,4:000/00/012",
	"a short last row":                "7,6,4:000/001/01",
	"a long first row":                "7,6,4:0000/001/012",
	"a long row":                      "7,6,4:000/0011/012",
	"a long last row":                 "7,6,4:000/001/0122",
	"a long row for one":              "1:00",
	"a long and a short row":          "7,6,4:0000/01/012",
	"a short and a long row":          "7,6,4:000/00/1012",
	"one row of all":                  "7,6,4:000001012",
	"one row of all of two":           "3,2:0001",
	"a slash too early":               "7,6,4:00/0001/012",
	"an empty first row":              "7,6,4:/000/001/012",
	"an empty row":                    "7,6,4:000//001/012",
	"an empty last row":               "7,6,4:000/001/012/",
	"a slash behind one row":          "1:0/",
	"a slash ahead of one row":        "1:/0",
	"a leading zero":                  "01:0",
	"leading zeros":                   "0001:0",
	"a later leading zero":            "7,06,4:000/001/012",
	"a last leading zero":             "7,6,04:000/001/012",
	"a leading zero in a row":         "7,6,4:000/001/0012",
	"digits with zeros":               "3,2:0000/0001",
	"a plus":                          "+1:0",
	"a later plus":                    "7,+6,4:000/001/012",
	"a plus in a row":                 "1:+0",
	"a minus":                         "-1:0",
	"a minus for all":                 "-7,-6,-4:000/001/012",
	"a minus in a row":                "1:-0",
	"a minus in a later row":          "7,6,4:000/0-11/012",
	"a blank":                         " ",
	"a blank ahead":                   " 1:0",
	"a blank behind":                  "1:0 ",
	"a blank ahead of the colon":      "1 :0",
	"a blank behind the colon":        "1: 0",
	"a blank behind a comma":          "7, 6,4:000/001/012",
	"a blank ahead of a comma":        "7 ,6,4:000/001/012",
	"a blank behind a slash":          "7,6,4:000/ 001/012",
	"blanks between digits":           "3,2:0 0/0 1",
	"a blank for a digit":             "7,6,4:000/0 1/012",
	"a tab":                           "\t1:0",
	"a newline":                       "1:0\n",
	"a newline ahead":                 "\n1:0",
	"a newline for a slash":           "3,2:00\n01",
	"a zero byte":                     "1:0\x00",
	"no numbers":                      ",:0",
	"a comma ahead":                   ",1:0",
	"a comma behind":                  "1,:0",
	"a comma too many":                "7,,6,4:000/001/012",
	"a comma behind the last number":  "7,6,4,:000/001/012",
	"commas between digits":           "3,2:0,0/0,1",
	"commas between rows":             "7,6,4:000,001,012",
	"a digit of no element":           "1:1",
	"the digit behind the last":       "7,6,4:000/031/012",
	"the digit behind the last of 6":  "63,62,60,56,48,32:000000/060001/000012/000123/001234/012345",
	"a 9":                             "7,6,4:000/091/012",
	"a 9 for one":                     "1:9",
	"a letter":                        "1:a",
	"a letter for a number":           "a:0",
	"a letter in a number":            "1a:0",
	"what follows the digits":         "1::",
	"what precedes the digits":        "1:/",
	"a digit that is none of ASCII":   "1:\u0660",
	"a number that is none of ASCII":  "\u0661:0",
	"256 behind the digit":            "1:\u0130",
	"bytes that are no text":          "1:\xb0",
	"more bytes that are no text":     "\xff\xfe",
	"a second colon":                  "1:0:0",
	"a colon behind":                  "1:0:",
	"a colon ahead":                   ":1:0",
	"a text behind":                   "1:0 1:0",
	"twice":                           "1:01:0",
	"a letter behind":                 "7,6,4:000/001/012x",
	"a row behind":                    "7,6,4:000/001/012/0",
	"a digit behind":                  "7,6,4:000/001/0120",
	"a comma behind the rows":         "7,6,4:000/001/012,",
	"hexadecimal":                     "0x1:0",
	"a power":                         "1e0:0",
	"a fraction":                      "1.0:0",
	"an underscore":                   "1_:0",
	"a number that is too great":      "99999999999999999999:0",
	"2 to 64 and 1":                   "18446744073709551617:0",
	"2 to 32 and 1":                   "4294967297:0",
	"no numbers but rows of nothing":  ":/",
	"a lattice that is none":          "0:0",
	"two elements the wrong way":      "2,3:00/01",
	"a chain of other numbers":        "7,2,6:000/001/012",
	"too many elements":               "127,126,124,120,112,96,64:0000000/0000001/0000012/0000123/0001234/0012345/0123456",
	"not the same both ways":          "15,10,12,8:0000/0011/0022/0123",
	"not the same for three":          "15,14,12,8:0000/0011/0112/0123",
	"not with the greatest":           "7,6,4:000/001/011",
	"all zeros":                       "7,6,4:000/000/000",
	"not with the least":              "3,2:10/01",
	"not over joins":                  "7,6,4:000/021/012",
	"not over joins of the square":    "15,10,12,8:0000/0001/0002/0123",
	"meets of the diamond":            "31,18,20,24,16:00000/01001/00202/00033/01234",
	"products of the pentagon":        "31,22,20,24,16:00000/00001/00002/00003/01234",
	"many colons":                     strings.Repeat(":", 1000),
	"many commas":                     strings.Repeat(",", 1000) + ":",
	"many ones":                       strings.Repeat("1,", 1000) + "1:0",
	"many digits":                     "1:" + strings.Repeat("0", 1000),
	"many slashes":                    "1:0" + strings.Repeat("/", 1000),
	"many zeros ahead":                strings.Repeat("0", 1000) + "1:0",
	"many numbers and as many digits": strings.Repeat("1,", 19) + "1:" + strings.Repeat("0", 400),
}

// algebraBytes are put into texts of algebras to spoil them.
const algebraBytes = "0123569,:/ -+a\n\x00\xb0"

// changedTexts are texts that differ from s by one byte that is gone, one of the
// bytes in its place, or one of them more, and by two neighbours that change
// places.
func changedTexts(s, bytes string) []string {
	var all []string
	for i := range len(s) {
		all = append(all, s[:i]+s[i+1:])
		if i > 0 {
			all = append(all, s[:i-1]+s[i:i+1]+s[i-1:i]+s[i+1:])
		}
	}
	for at := range len(bytes) {
		b := bytes[at : at+1]
		for i := range len(s) {
			all = append(all, s[:i]+b+s[i+1:], s[:i]+b+s[i:])
		}
		all = append(all, s+b)
	}
	return all
}

// listsOfAll are all lists of numbers in algebras.
func listsOfAll(algebras []impl.Algebra) [][]int {
	var all [][]int
	for _, a := range algebras {
		all = append(all, listsOf(a)...)
	}
	return all
}
