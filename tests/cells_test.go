package tests

import (
	"math"
	"math/big"
	"regexp"
	"slices"
	"strings"
	"testing"

	"loop.example/configformatter/impl"
)

// cellPatterns has the words of every kind; of numbers and names the patterns alone do not tell all.
var cellPatterns = map[int]*regexp.Regexp{
	impl.CellNumber: regexp.MustCompile(`\A(?:0|[1-9][0-9]*)(?:\.[0-9]{0,5}[1-9])?\z`),
	impl.CellText:   regexp.MustCompile(`\A[\n -~]{0,60}\z`),
	impl.CellTruth:  regexp.MustCompile(`\A(?:true|false)\z`),
	impl.CellName:   namePattern,
	impl.CellList:   regexp.MustCompile(`\A\z`),
	impl.CellCall:   regexp.MustCompile(`\A[a-z][a-z0-9_]{0,11}\z`),
	impl.CellUnary:  regexp.MustCompile(`\A[-!]\z`),
	impl.CellBinary: regexp.MustCompile(`\A(?:\|\||&&|[=!]=|[<>]=?|[-+*/%])\z`),
	impl.CellChoice: regexp.MustCompile(`\A\z`),
}

// partLimits has the least and the greatest number of parts of every kind.
var partLimits = map[int][2]int{
	impl.CellNumber: {0, 0}, impl.CellText: {0, 0}, impl.CellTruth: {0, 0}, impl.CellName: {0, 0},
	impl.CellList: {0, 8}, impl.CellCall: {0, 8}, impl.CellUnary: {1, 1}, impl.CellBinary: {2, 2}, impl.CellChoice: {3, 3},
}

// expectedCell reports by patterns and tables whether a cell is valid.
func expectedCell(c impl.Cell) bool {
	pattern, limits := cellPatterns[c.Kind], partLimits[c.Kind]
	if pattern == nil || c.Many < limits[0] || c.Many > limits[1] || !pattern.MatchString(c.Word) {
		return false
	}
	switch c.Kind {
	case impl.CellNumber:
		r, _ := new(big.Rat).SetString(c.Word)
		return r.Num().Cmp(big.NewInt(impl.MaxTop)) <= 0
	case impl.CellName:
		return len(c.Word) <= 60 && c.Word != "true" && c.Word != "false"
	case impl.CellCall:
		return c.Word != "true" && c.Word != "false"
	}
	return true
}

// goodWords returns valid words, by the kind.
func goodWords() [][]string {
	part := strings.Repeat("n", impl.MaxName)
	return [][]string{
		impl.CellNumber: {
			"0", "1", "7", "10", "42", "0.5", "1.5", "2.25", "0.1", "0.000001", "0.999999", "1.000001", "999.999999",
			"99999999.9", "500000000", "999999999", "1000000000", "499999999.5", "250000000",
		},
		impl.CellText: {
			"", "x", " ", "two words", "\n", "\"", "\\", "#", "true", "1", "-1", "A~!", "a.b", "!", "a\nb\n",
			strings.Repeat("x", impl.MaxWord), strings.Repeat("\n", impl.MaxWord), strings.Repeat("\\\"", impl.MaxWord/2), strings.Repeat(" ", impl.MaxWord-1),
		},
		impl.CellTruth:  {"true", "false"},
		impl.CellName:   {"a", "z9", "x_1", "a.b", "a.b.c.d.e.f", "truth", "true.a", "a.false", part, part + "." + part, strings.Repeat(part+".", 4) + "nnnnnnnn", strings.Repeat("a.", 29) + "a"},
		impl.CellList:   {""},
		impl.CellCall:   {"f", "length", "x_1", "truth", part},
		impl.CellUnary:  {"!", "-"},
		impl.CellBinary: {"||", "&&", "==", "!=", "<", "<=", ">", ">=", "+", "-", "*", "/", "%"},
		impl.CellChoice: {""},
	}
}

// candidateWords returns words of every kind, and others that no kind has.
func candidateWords() []string {
	part := strings.Repeat("n", impl.MaxName)
	list := slices.Concat(goodWords()...)
	list = append(list, signs()...)
	list = append(list,
		"-1", "-0", "-0.5", "-1/3", "+1", "01", "00", "007", "0.0", "1.0", "1.50", "0.10", "1.", ".5", "1..5", "1.2.3", "1/3", "2/3", "1/2", "2/6", "4/2", "1/1", "0/1", "0/0", "1/0",
		"1000000001", "1000000000.5", "1000000000.000001", "999999999.5", "100000000.1", "9999999999", "99999999999999999999", "0.0000001", "0.1234567", " 1", "1 ", "1,5", "1e3", "0x1", "1_0",
		"True", "TRUE", "tru", "truefalse", "true ", " true", "true.", "true.true", "A", "aB", "1a", "_a", ".a", "a.", "a..b", "a b", " a", "a ", "a.B", "a.1", part+"n", "a."+part+"n", part+"."+part+"n",
		"=", "&", "|", "===", "!==", "=>", "=<", "<>", "<<", ">>", "**", "//", "++", "--", "!!", "! ", " -", "- ", "&&&", "|||", "^", "~", "?:", "{", "}", "#", ".", "[]", "()", "\x00", "\t", "\x7f", "\x80", "\xff", "\xc3\xa4", "a\x00", "\xff1", "a\r",
		strings.Repeat("x", impl.MaxWord+1), strings.Repeat("\n", impl.MaxWord+1), strings.Repeat(" ", impl.MaxWord)+"\x01", strings.Repeat("a.", 30)+"a", strings.Repeat(part+".", 4)+"nnnnnnnnn", strings.Repeat(part+".", 4)+part,
		strings.Repeat("1", impl.MaxWord), strings.Repeat("0", impl.MaxWord), "1."+strings.Repeat("0", impl.MaxText)+"1", strings.Repeat("9", impl.MaxText), strings.Repeat("a", impl.MaxText), strings.Repeat("x", 2*impl.MaxText), "a"+strings.Repeat(".a", impl.MaxText),
	)
	return append(list, allBytes()...)
}

// candidateKinds returns all kinds and numbers that are none.
func candidateKinds() []int {
	list := []int{math.MinInt, math.MinInt + 1, -10, math.MaxInt - 1, math.MaxInt, 100, 256 + impl.CellNumber, 1<<32 + impl.CellText}
	for kind := -2; kind <= 13; kind++ {
		list = append(list, kind)
	}
	return list
}

// candidateParts returns all numbers of parts that a kind allows, and others.
func candidateParts() []int {
	list := []int{math.MinInt, math.MinInt + 1, -100, 60, 61, 256, 1 << 32, 1<<32 + 1, 1<<32 + 2, math.MaxInt - 1, math.MaxInt}
	for many := -3; many <= 20; many++ {
		list = append(list, many)
	}
	return list
}

func TestCellValid(t *testing.T) {
	words, parts, accepted := candidateWords(), candidateParts(), 0
	for _, kind := range candidateKinds() {
		for _, word := range words {
			for _, many := range parts {
				c := impl.Cell{Kind: kind, Word: word, Many: many}
				got := impl.CellValid(c)
				if got != expectedCell(c) {
					t.Errorf("CellValid of the kind %d, %.70q of %d bytes and %d parts is %v", kind, word, len(word), many, got)
				}
				if got {
					accepted++
				}
			}
		}
	}
	if accepted < 100 {
		t.Errorf("only %d cells are accepted", accepted)
	}
}

func TestShortWordsOfCells(t *testing.T) {
	for _, kind := range candidateKinds() {
		least := partLimits[kind][0]
		for _, word := range slices.Concat(textsUpTo(5, "01.-/"), textsUpTo(4, "az_.1A"), textsUpTo(3, "!-<=>&|+*/%")) {
			c := impl.Cell{Kind: kind, Word: word, Many: least}
			if got := impl.CellValid(c); got != expectedCell(c) {
				t.Errorf("CellValid(%v) is %v", c, got)
			}
		}
	}
}

func TestCellsByHand(t *testing.T) {
	part := strings.Repeat("n", impl.MaxName)
	cases := []struct {
		kind, many int
		good, bad  []string
	}{
		{impl.CellNumber, 0, []string{"0", "1000000000", "1.5", "0.000001", "99999999.9"},
			[]string{"", "-1", "-0", "1.50", "01", "1/3", "1/2", "1000000001", "999999999.5", "0.0000001", "a"}},
		{impl.CellText, 0, []string{"", "a\n\"b\" \\", strings.Repeat("x", 60), "-1/3", "true"},
			[]string{strings.Repeat("x", 61), "\x01", "\xc3\xa4"}},
		{impl.CellTruth, 0, []string{"true", "false"}, []string{"", "True", "maybe", "true ", "0"}},
		{impl.CellName, 0, []string{"a", "a.b", "true.a", part, strings.Repeat(part+".", 4) + part[:8]},
			[]string{"", "true", "false", "A", "a.", part + "n", strings.Repeat(part+".", 4) + part[:9]}},
		{impl.CellList, 8, []string{""}, []string{"a", " ", "["}},
		{impl.CellCall, 8, []string{"f", part, "nofunction"}, []string{"", "a.b", "true", "false", "F", part + "n"}},
		{impl.CellUnary, 1, []string{"!", "-"}, []string{"", "+", "!!", "~"}},
		{impl.CellBinary, 2, []string{"||", "&&", "==", "!=", "<", "<=", ">", ">=", "+", "-", "*", "/", "%"},
			[]string{"", "!", "=", "&", "|", "^", "?", ":", ",", "+ "}},
		{impl.CellChoice, 3, []string{""}, []string{"?", "?:", " "}},
		{0, 0, nil, []string{"", "1", "a"}},
		{-1, 0, nil, []string{"", "1", "a"}},
		{math.MinInt, 0, nil, []string{"", "1", "a"}},
		{math.MaxInt, 0, nil, []string{"", "1", "a"}},
	}
	for _, c := range cases {
		for _, word := range c.good {
			if !impl.CellValid(impl.Cell{Kind: c.kind, Word: word, Many: c.many}) {
				t.Errorf("the kind %d with %q is invalid", c.kind, word)
			}
		}
		for _, word := range c.bad {
			if impl.CellValid(impl.Cell{Kind: c.kind, Word: word, Many: c.many}) {
				t.Errorf("the kind %d with %q is valid", c.kind, word)
			}
		}
	}
}

func TestPartsOfCellsByHand(t *testing.T) {
	never := []int{math.MinInt, -8, -3, -2, -1, 9, 10, 60, 1 << 32, math.MaxInt}
	cases := []struct {
		kind      int
		word      string
		good, bad []int
	}{
		{impl.CellNumber, "1", []int{0}, []int{1, 2, 3, 8}},
		{impl.CellText, "x", []int{0}, []int{1, 2, 3, 8}},
		{impl.CellTruth, "true", []int{0}, []int{1, 2, 3, 8}},
		{impl.CellName, "a", []int{0}, []int{1, 2, 3, 8}},
		{impl.CellList, "", []int{0, 1, 2, 3, 4, 5, 6, 7, 8}, nil},
		{impl.CellCall, "f", []int{0, 1, 2, 3, 4, 5, 6, 7, 8}, nil},
		{impl.CellUnary, "!", []int{1}, []int{0, 2, 3, 8}},
		{impl.CellBinary, "+", []int{2}, []int{0, 1, 3, 8}},
		{impl.CellChoice, "", []int{3}, []int{0, 1, 2, 4, 8}},
	}
	for _, c := range cases {
		for _, many := range c.good {
			if !impl.CellValid(impl.Cell{Kind: c.kind, Word: c.word, Many: many}) {
				t.Errorf("the kind %d with %d parts is invalid", c.kind, many)
			}
		}
		for _, many := range append(c.bad, never...) {
			if impl.CellValid(impl.Cell{Kind: c.kind, Word: c.word, Many: many}) {
				t.Errorf("the kind %d with %d parts is valid", c.kind, many)
			}
		}
	}
}

// Promise 30: cells have kinds.
func TestCellsHaveKinds(t *testing.T) {
	for _, word := range candidateWords() {
		for _, many := range candidateParts() {
			if impl.CellValid(impl.Cell{Kind: 10, Word: word, Many: many}) {
				t.Errorf("the kind 10 with %.70q and %d parts is valid", word, many)
			}
		}
	}
	for _, word := range goodWords()[impl.CellNumber] {
		for _, many := range candidateParts() {
			if got := impl.CellValid(impl.Cell{Kind: impl.CellNumber, Word: word, Many: many}); got != (many == 0) {
				t.Errorf("the number %s with %d parts is %v", word, many, got)
			}
		}
	}
	for _, list := range slices.Concat(ordinaryExprs(), edgeExprs()) {
		for at := range list {
			changed := slices.Clone(list)
			changed[at].Kind = 10
			if impl.CellValid(changed[at]) || impl.ExprValid(changed) {
				t.Errorf("%v is valid", changed)
			}
		}
	}
}
