package tests

import (
	"regexp"
	"slices"
	"strconv"
	"strings"

	"loop.example/residuatedtables/impl"
)

var (
	lineShape = regexp.MustCompile(`\A(true|refute|filter) ([^ ]*) ([^ ]*)\z`)
	setShape  = regexp.MustCompile(`\A(?:0|[1-9][0-9]?)\z`)
)

// withCommas are numbers in decimal with a comma between two of them.
func withCommas(numbers []int) string {
	var texts []string
	for _, n := range numbers {
		texts = append(texts, strconv.Itoa(n))
	}
	return strings.Join(texts, ",")
}

// plainAnswer follows the document's words for the answer of RunDesk to a line.
func plainAnswer(line string) string {
	parts := lineShape.FindStringSubmatch(line)
	if parts == nil {
		return "what"
	}
	a, isAlgebra := plainParse(parts[2])
	if !isAlgebra {
		return "wrong"
	}
	if parts[1] == "filter" {
		return plainFilterAnswer(a, parts[3])
	}
	t, isTerm := plainParseTerm(parts[3])
	if !isTerm {
		return "wrong"
	}
	names := plainRefutation(operationsOf(a), t)
	switch {
	case names == nil:
		return "yes"
	case parts[1] == "true":
		return "no"
	}
	return withCommas(names)
}

// plainFilterAnswer is the answer to a line of filter.
func plainFilterAnswer(a impl.Algebra, number string) string {
	set, err := strconv.Atoi(number)
	if !setShape.MatchString(number) || err != nil || set >= 1<<len(a.Up) {
		return "wrong"
	}
	with := slices.DeleteFunc(plainFilters(a), func(f int) bool { return !isWithin(set, f) })
	return strconv.Itoa(commonTo(len(a.Up), with))
}

// answeredLines are lines that are answered by what they ask for.
var answeredLines = map[string]string{
	"true 7,6,4:000/001/012 (--x>x)": "yes",
	"true 7,6,4:000/011/012 (--x>x)": "no",
	"true 7,6,4:000/011/012 1":       "yes",
	"true 7,6,4:000/011/012 0":       "no",
	"true 7,6,4:000/011/012 x":       "no",
	"true 1:0 x":                     "yes",
	"true 1:0 0":                     "yes",
	"true 3,2:00/01 (x|-x)":          "yes",
	"true 31,18,30,26,16:00000/01231/02002/03023/01234 ((x>y)|(y>x))":       "yes",
	"true 63,62,60,56,48,32:000000/000001/000012/000123/001234/012345 z":    "no",
	"refute 7,6,4:000/011/012 (--x>x)":                                      "1,0,0",
	"refute 7,6,4:000/001/012 (--x>x)":                                      "yes",
	"refute 7,6,4:000/001/012 (x|-x)":                                       "1,0,0",
	"refute 7,6,4:000/001/012 (x>(y&z))":                                    "1,0,0",
	"refute 7,6,4:000/001/012 x":                                            "0,0,0",
	"refute 7,6,4:000/001/012 -y":                                           "0,1,0",
	"refute 7,6,4:000/001/012 --z":                                          "0,0,0",
	"refute 7,6,4:000/001/012 (y>z)":                                        "0,1,0",
	"refute 3,2:00/01 ((x&y)>z)":                                            "1,1,0",
	"refute 3,2:00/01 ((x&y)>-z)":                                           "1,1,1",
	"refute 1:0 0":                                                          "yes",
	"filter 7,6,4:000/011/012 2":                                            "6",
	"filter 7,6,4:000/001/012 2":                                            "7",
	"filter 7,6,4:000/011/012 0":                                            "4",
	"filter 7,6,4:000/011/012 7":                                            "7",
	"filter 1:0 0":                                                          "1",
	"filter 1:0 1":                                                          "1",
	"filter 15,10,12,8:0000/0101/0022/0123 2":                               "10",
	"filter 15,10,12,8:0000/0101/0022/0123 6":                               "15",
	"filter 63,62,60,56,48,32:000000/000001/000012/000123/001234/012345 63": "63",
	"filter 63,62,60,56,48,32:000000/000001/000012/000123/001234/012345 0":  "32",
	"filter 63,62,60,56,48,32:000000/011111/012222/012333/012344/012345 10": "62",
}

// wrongLines are lines of two texts, one of which is wrong.
var wrongLines = []string{
	"true  ", "refute  ", "filter  ",
	"true 1:0 ", "refute 1:0 ", "filter 1:0 ",
	"true  x", "refute  x", "filter  0",
	"true x y", "refute x y", "filter x y", "filter 0 1:0", "true x 1:0", "refute x 1:0",
	"true 1:0 1:0", "refute 1:0 1:0", "filter 1:0 1:0",
	"true 1 x", "true 1: x", "true 1:1 x", "true 01:0 x", "refute 2:0 x", "true 7,6,4:000/021/012 1",
	"filter 7,6,4:000/021/012 1", "filter 31,18,20,24,16:00000/01001/00202/00033/01234 1", "refute 15,14,12,8:0000/0011/0112/0123 x",
	"true 1:0 w", "true 1:0 X", "true 1:0 2", "true 1:0 true", "true 1:0 -", "true 1:0 xy", "true 1:0 (x&y", "true 1:0 x&y", "refute 1:0 (x)",
	"true 1:0 " + "---------------x", "refute 7,6,4:000/001/012 " + "---------------x",
	"true 1:0 x\n", "true 1:0\n x", "filter 1:0 0\n", "true 1:0 \tx", "true 1:0 x\r", "true \t1:0 x",
	"filter 1:0 2", "filter 1:0 3", "filter 3,2:00/01 4", "filter 7,6,4:000/011/012 8", "filter 7,6,4:000/011/012 9", "filter 7,6,4:000/011/012 64",
	"filter 63,62,60,56,48,32:000000/000001/000012/000123/001234/012345 64",
	"filter 1:0 x", "filter 3,2:00/01 x", "filter 1:0 -1", "filter 1:0 -0", "filter 1:0 +1", "filter 1:0 +0", "filter 1:0 00", "filter 1:0 01", "filter 7,6,4:000/011/012 007",
	"filter 1:0 1.0", "filter 1:0 0x1", "filter 1:0 1e0", "filter 7,6,4:000/011/012 0b1", "filter 1:0 1_0", "filter 1:0 1,0", "filter 1:0 1:", "filter 1:0 --1",
	"filter 1:0 4294967296", "filter 1:0 18446744073709551616", "filter 1:0 18446744073709551617", "filter 1:0 99999999999999999999999", "filter 1:0 -18446744073709551615", "filter 1:0 -9223372036854775808",
	"filter 1:0 \u0660", "filter 1:0 \xb0",
}

// whatLines are lines that ask for nothing.
var whatLines = []string{
	"", " ", "  ", "   ", "\n", "help", "what", "wrong", "yes", "true", "refute", "filter",
	"true ", "refute ", "filter ", " true", "true 1:0", "refute 1:0", "filter 1:0", "filter 0", "true x",
	"true   ", "true 1:0 x ", "filter 1:0 0 ", " true 1:0 x", " filter 1:0 0", "true  1:0 x", "true 1:0  x", "filter 1:0  0", "refute  1:0  x",
	"true 1:0 x y", "refute 1:0 x x", "filter 1:0 0 0", "filter 1:0 0 1", "true 1:0 (x & y)", "true 1:0 true 1:0", "true 1:0 x true 1:0 x",
	"walk 1:0 x", "True 1:0 x", "TRUE 1:0 x", "tru 1:0 x", "truee 1:0 x", "trues 1:0 x", "refutes 1:0 x", "Refute 1:0 x", "filters 1:0 0", "Filter 1:0 0", "FILTER 1:0 0",
	" 1:0 x", "1:0 true x", "1:0 x true", "true\t1:0\tx", "true\n1:0\nx", "true\t1:0 x", "\ttrue 1:0 x", "true\n 1:0 x", "true\x00 1:0 x", "true,1:0,x", "true:1:0:x",
	"truefilter 1:0 0", "true|refute 1:0 x", "what 1:0 x", "is 1:0 x", "\xff 1:0 x",
}

// lineBytes are put into lines to spoil them.
const lineBytes = " 01267,:/-+x>()tT\n\x00\xb0"
