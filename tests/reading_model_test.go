package tests

import (
	"math/big"
	"math/rand"
	"slices"
	"strings"
	"testing"

	"loop.example/configformatter/impl"
)

// signRanks has the binary signs, the weakest ones first.
var signRanks = [][]string{{"||"}, {"&&"}, {"==", "!=", "<", "<=", ">", ">="}, {"+", "-"}, {"*", "/", "%"}}

const compareRank = 2

// reading is what is expected of words: the cells of their expression, and how deep they are nested.
type reading struct {
	cells   []impl.Cell
	nesting int
}

// outside returns the numbers of the words that stand in no brackets, with the brackets themselves, and whether all brackets are closed by their own kind.
func outside(words []string) ([]int, bool) {
	var places []int
	open := ""
	for k, word := range words {
		if word == ")" || word == "]" {
			if open == "" || open[len(open)-1:]+word != "()" && open[len(open)-1:]+word != "[]" {
				return nil, false
			}
			open = open[:len(open)-1]
		}
		if open == "" {
			places = append(places, k)
		}
		if word == "(" || word == "[" {
			open += word
		}
	}
	return places, open == ""
}

// endsOperand reports whether a sign behind a word is a binary one.
func endsOperand(word string) bool {
	return word == ")" || word == "]" || !slices.Contains(signs(), word)
}

// lastBinary returns the number of the last outer binary sign of a rank, and how many there are.
func lastBinary(words []string, places []int, rank []string) (int, int) {
	last, n := -1, 0
	for _, k := range places {
		if k > 0 && slices.Contains(rank, words[k]) && endsOperand(words[k-1]) {
			last, n = k, n+1
		}
	}
	return last, n
}

// joinedReading puts the readings of parts together.
func joinedReading(kind int, word string, nesting int, parts ...[]string) (reading, bool) {
	all := reading{cells: []impl.Cell{{Kind: kind, Word: word, Many: len(parts)}}}
	for _, part := range parts {
		r, ok := expectedReading(part)
		if !ok {
			return reading{}, false
		}
		all.cells = append(all.cells, r.cells...)
		all.nesting = max(all.nesting, r.nesting)
	}
	all.nesting += nesting
	return all, true
}

// choiceReading divides words at their first outer question mark and at the colon that belongs to it.
func choiceReading(words []string, places []int, first int) (reading, bool) {
	waiting := 0
	for _, k := range places {
		switch words[k] {
		case "?":
			waiting++
		case ":":
			waiting--
		}
		if k > first && waiting == 0 {
			return joinedReading(impl.CellChoice, "", 1, words[:first], words[first+1:k], words[k+1:])
		}
	}
	return reading{}, false
}

// seriesReading divides words at their outer commas.
func seriesReading(kind int, word string, words []string) (reading, bool) {
	if len(words) == 0 {
		return joinedReading(kind, word, 1)
	}
	places, _ := outside(words)
	var parts [][]string
	from := 0
	for _, k := range places {
		if words[k] == "," {
			parts = append(parts, words[from:k])
			from = k + 1
		}
	}
	return joinedReading(kind, word, 1, append(parts, words[from:])...)
}

// wordReading reads a single word.
func wordReading(word string) (reading, bool) {
	switch {
	case word == "true" || word == "false":
		return joinedReading(impl.CellTruth, word, 0)
	case word[0] >= 'a' && word[0] <= 'z':
		return joinedReading(impl.CellName, word, 0)
	case word[0] == '"':
		text, ok := expectedUnquoted(word)
		r, _ := joinedReading(impl.CellText, text, 0)
		return r, ok
	case word[0] >= '0' && word[0] <= '9':
		number, ok := expectedNumber(word)
		r, _ := joinedReading(impl.CellNumber, number, 0)
		return r, ok
	}
	return reading{}, false
}

// expectedNumber returns the word of the cell of a number.
func expectedNumber(word string) (string, bool) {
	before, behind, point := strings.Cut(word, ".")
	if len(before) > 10 || len(behind) > 6 || point && behind == "" || strings.Contains(behind, ".") {
		return "", false
	}
	r, _ := new(big.Rat).SetString(word)
	f, ok := fractionOf(r)
	if !ok {
		return "", false
	}
	return textOf(f), true
}

// expectedReading divides words at their weakest sign, and reads the parts in the same way; so it goes from the whole to the parts, and not from the left to the right.
func expectedReading(words []string) (reading, bool) {
	places, ok := outside(words)
	if len(words) == 0 || !ok {
		return reading{}, false
	}
	for _, k := range places {
		if words[k] == "?" {
			return choiceReading(words, places, k)
		}
	}
	for rank, list := range signRanks {
		if k, n := lastBinary(words, places, list); n == 1 || n > 1 && rank != compareRank {
			return joinedReading(impl.CellBinary, words[k], 0, words[:k], words[k+1:])
		} else if n > 1 {
			return reading{}, false
		}
	}
	last := len(words) - 1
	switch {
	case words[0] == "!" || words[0] == "-":
		return joinedReading(impl.CellUnary, words[0], 1, words[1:])
	case last == 0:
		return wordReading(words[0])
	case words[0] == "(" && slices.Equal(places, []int{0, last}):
		r, ok := expectedReading(words[1:last])
		r.nesting++
		return r, ok
	case words[0] == "[" && slices.Equal(places, []int{0, last}):
		return seriesReading(impl.CellList, "", words[1:last])
	case words[0][0] >= 'a' && words[0][0] <= 'z' && words[1] == "(" && slices.Equal(places, []int{0, 1, last}):
		return seriesReading(impl.CellCall, words[0], words[2:last])
	}
	return reading{}, false
}

// wordsOf divides a text into words by the pattern of tokens.
func wordsOf(s string) []string {
	tokens, _ := expectedTokens(s)
	var words []string
	for _, token := range tokens {
		words = append(words, s[token.From:token.To])
	}
	return words
}

// expectedExpr returns the expression that a text stands for; nil if there is none.
func expectedExpr(s string) []impl.Cell {
	r, ok := expectedReading(wordsOf(s))
	if !ok || r.nesting > 40 || expectedSpans(r.cells) == nil {
		return nil
	}
	return r.cells
}

// checkReading compares what both functions return for a text with an expression; nil if the text stands for none.
func checkReading(t *testing.T, s string, want []impl.Cell) {
	t.Helper()
	got, ok := impl.ReadExpr(s)
	if !slices.Equal(got, want) || ok != (want != nil) {
		t.Errorf("ReadExpr(%.300q) of %d bytes is %.300s, %v, not %.300s", s, len(s), shape(got), ok, shape(want))
	}
	if sound := impl.ExprSound(s); sound != (want != nil) {
		t.Errorf("ExprSound(%.300q) of %d bytes is %v", s, len(s), sound)
	}
}

// spacings returns texts with the words: with single spaces, with many, and with none where words stay apart without them.
func spacings(words []string) []string {
	tight := ""
	for k, word := range words {
		if k > 0 && !slices.Equal(wordsOf(words[k-1]+word), []string{words[k-1], word}) {
			tight += " "
		}
		tight += word
	}
	return []string{strings.Join(words, " "), "   " + strings.Join(words, "   ") + "  ", tight}
}

// cellRank returns how strong a cell is: a choice is 0, then the binary signs follow, unary ones, and everything else.
func cellRank(c impl.Cell) int {
	switch c.Kind {
	case impl.CellChoice:
		return 0
	case impl.CellBinary:
		return 1 + slices.IndexFunc(signRanks, func(list []string) bool { return slices.Contains(list, c.Word) })
	case impl.CellUnary:
		return 6
	}
	return 7
}

// partRanks returns how strong the parts of a cell must be to stand without parentheses.
func partRanks(c impl.Cell) []int {
	rank := cellRank(c)
	switch {
	case c.Kind == impl.CellChoice:
		return []int{1, 0, 0}
	case c.Kind == impl.CellUnary:
		return []int{rank}
	case rank == 1+compareRank:
		return []int{rank + 1, rank + 1}
	case c.Kind == impl.CellBinary:
		return []int{rank, rank + 1}
	}
	return make([]int, c.Many)
}

// exprWriter writes the words of an expression: more tells where to put parentheses that are not needed, and number how to write numbers.
type exprWriter struct {
	list   []impl.Cell
	more   func() bool
	number func(word string) string
}

// words returns the words of what begins at a place, and the place behind it. It takes also cells that are too many or too deep.
func (w exprWriter) words(at int, least int) ([]string, int) {
	c, end := w.list[at], at+1
	parts := make([][]string, c.Many)
	for k, rank := range partRanks(c) {
		parts[k], end = w.words(end, rank)
	}
	words := w.joined(c, parts)
	if cellRank(c) < least || w.more() {
		words = slices.Concat([]string{"("}, words, []string{")"})
	}
	return words, end
}

// joined returns the words of a cell with those of its parts.
func (w exprWriter) joined(c impl.Cell, parts [][]string) []string {
	var series []string
	for k, part := range parts {
		if k > 0 {
			series = append(series, ",")
		}
		series = append(series, part...)
	}
	switch c.Kind {
	case impl.CellNumber:
		return []string{w.number(c.Word)}
	case impl.CellText:
		return []string{expectedQuoted(c.Word)}
	case impl.CellList:
		return slices.Concat([]string{"["}, series, []string{"]"})
	case impl.CellCall:
		return slices.Concat([]string{c.Word, "("}, series, []string{")"})
	case impl.CellUnary:
		return append([]string{c.Word}, parts[0]...)
	case impl.CellBinary:
		return slices.Concat(parts[0], []string{c.Word}, parts[1])
	case impl.CellChoice:
		return slices.Concat(parts[0], []string{"?"}, parts[1], []string{":"}, parts[2])
	}
	return []string{c.Word}
}

// plainWords writes an expression with the parentheses that are needed alone.
func plainWords(list []impl.Cell) []string {
	w := exprWriter{list: list, more: func() bool { return false }, number: func(word string) string { return word }}
	words, _ := w.words(0, 0)
	return words
}

// fullWords writes an expression with parentheses around every part and around itself.
func fullWords(list []impl.Cell) []string {
	w := exprWriter{list: list, more: func() bool { return true }, number: func(word string) string { return word }}
	words, _ := w.words(0, 0)
	return words
}

// longNumber writes the word of a number with zeros at its ends, as many as there may be at most.
func longNumber(r *rand.Rand, word string) string {
	before, behind, _ := strings.Cut(word, ".")
	before = strings.Repeat("0", r.Intn(11-len(before))) + before
	behind += strings.Repeat("0", r.Intn(7-len(behind)))
	if behind == "" {
		return before
	}
	return before + "." + behind
}

// randomWords writes an expression with some more parentheses, and with numbers that are not written as FractionText.
func randomWords(r *rand.Rand, list []impl.Cell) []string {
	w := exprWriter{list: list, more: func() bool { return r.Intn(4) == 0 }, number: func(word string) string { return longNumber(r, word) }}
	words, _ := w.words(0, 0)
	return words
}

// shape writes an expression for tests by hand: every sign stands before its parts, and truths in large letters; nothing without cells.
func shape(list []impl.Cell) string {
	if len(list) == 0 {
		return ""
	}
	s, _ := shapeAt(list, 0)
	return s
}

func shapeAt(list []impl.Cell, at int) (string, int) {
	c, end := list[at], at+1
	parts := make([]string, c.Many)
	for k := range parts {
		parts[k], end = shapeAt(list, end)
	}
	inner := strings.Join(parts, " ")
	switch c.Kind {
	case impl.CellText:
		return "'" + c.Word + "'", end
	case impl.CellTruth:
		return strings.ToUpper(c.Word), end
	case impl.CellList:
		return "[" + inner + "]", end
	case impl.CellCall:
		return c.Word + "(" + inner + ")", end
	case impl.CellUnary, impl.CellBinary:
		return "{" + c.Word + " " + inner + "}", end
	case impl.CellChoice:
		return "{? " + inner + "}", end
	}
	return c.Word, end
}
