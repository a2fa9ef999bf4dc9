package tests

import (
	"math/big"
	"math/rand"
	"regexp"
	"slices"
	"strconv"
	"strings"
	"testing"

	"loop.example/configformatter/impl"
)

// valueNumbers has the words of numbers in values; of their size and their factors it does not tell all.
var valueNumbers = regexp.MustCompile(`\A-?(?:0|[1-9][0-9]{0,9})(?:\.[0-9]{0,5}[1-9]|/[1-9][0-9]{0,6})?\z`)

// expectedRat returns the number that the word of a number in a value stands for, and true; nil and false if it is no such word.
func expectedRat(word string) (*big.Rat, bool) {
	if !valueNumbers.MatchString(word) {
		return nil, false
	}
	r, _ := new(big.Rat).SetString(word)
	f, ok := fractionOf(r)
	if !ok || textOf(f) != word {
		return nil, false
	}
	return r, true
}

// meaning returns what cells stand for as a value of Go: a *big.Rat, a string, a bool or a []any; and whether they are a value.
func meaning(list []impl.Cell) (any, bool) {
	plain := slices.Clone(list)
	for k, c := range list {
		if _, ok := expectedRat(c.Word); ok && c.Kind == impl.CellNumber {
			plain[k].Word = "1"
		}
		if c.Kind != impl.CellNumber && c.Kind != impl.CellText && c.Kind != impl.CellTruth && c.Kind != impl.CellList {
			return nil, false
		}
	}
	spans := expectedSpans(plain)
	if spans == nil {
		return nil, false
	}
	return meaningAt(list, spans, 0), true
}

func meaningAt(list []impl.Cell, spans []span, at int) any {
	switch list[at].Kind {
	case impl.CellNumber:
		r, _ := expectedRat(list[at].Word)
		return r
	case impl.CellText:
		return list[at].Word
	case impl.CellTruth:
		return list[at].Word == "true"
	}
	parts := []any{}
	for _, part := range spans[at].parts {
		parts = append(parts, meaningAt(list, spans, part))
	}
	return parts
}

// cellsOf returns the cells of a value of Go, whether or not they are a value.
func cellsOf(v any) []impl.Cell {
	switch v := v.(type) {
	case *big.Rat:
		if f, ok := fractionOf(v); ok {
			return leaf(impl.CellNumber, textOf(f))
		}
		return leaf(impl.CellNumber, v.RatString())
	case string:
		return leaf(impl.CellText, v)
	case bool:
		return leaf(impl.CellTruth, strconv.FormatBool(v))
	}
	var parts [][]impl.Cell
	for _, part := range v.([]any) {
		parts = append(parts, cellsOf(part))
	}
	return tree(impl.CellList, "", parts...)
}

// textOfValue returns the text of a value of Go.
func textOfValue(v any) string {
	switch v := v.(type) {
	case *big.Rat:
		f, _ := fractionOf(v)
		return textOf(f)
	case string:
		return expectedQuoted(v)
	case bool:
		return strconv.FormatBool(v)
	}
	s := "["
	for k, part := range v.([]any) {
		if k > 0 {
			s += ", "
		}
		s += textOfValue(part)
	}
	return s + "]"
}

// checkValue compares what the functions return for cells with what is expected, and looks whether the cells stay.
func checkValue(t *testing.T, list []impl.Cell) {
	t.Helper()
	before := slices.Clone(list)
	v, valid := meaning(list)
	text, parts := "", []any(nil)
	if valid {
		text = textOfValue(v)
		parts, _ = v.([]any)
	}
	if got := impl.ValueValid(list); got != valid {
		t.Errorf("ValueValid of %d cells %.300v is %v", len(list), list, got)
	}
	if got := impl.ValueText(list); got != text {
		t.Errorf("ValueText of %d cells %.300v is %.300q, not %.300q", len(list), list, got, text)
	}
	got := impl.ValueParts(list)
	if len(got) != len(parts) {
		t.Fatalf("ValueParts of %d cells %.300v are %d, not %d", len(list), list, len(got), len(parts))
	}
	for k, part := range got {
		if !slices.Equal(part, cellsOf(parts[k])) {
			t.Errorf("part %d of %.300v is %.300v", k, list, part)
		}
	}
	if !slices.Equal(list, before) {
		t.Errorf("%.300v was changed to %.300v", before, list)
	}
}

// checkList compares the list of cells with what is expected, and looks whether the cells stay. It returns whether there is a list.
func checkList(t *testing.T, parts [][]impl.Cell) bool {
	t.Helper()
	before := slices.Clone(parts)
	for k, part := range parts {
		before[k] = slices.Clone(part)
	}
	want := tree(impl.CellList, "", parts...)
	_, valid := meaning(want)
	for _, part := range parts {
		if _, ok := meaning(part); !ok {
			valid = false
		}
	}
	if !valid {
		want = nil
	}
	got, ok := impl.ListValue(parts)
	if !slices.Equal(got, want) || ok != valid {
		t.Errorf("ListValue of %d parts %.300v is %.300v, %v, not %.300v", len(parts), parts, got, ok, want)
	}
	if !slices.EqualFunc(parts, before, slices.Equal[[]impl.Cell]) {
		t.Errorf("the parts %.300v were changed to %.300v", before, parts)
	}
	return ok
}

// simpleValues returns values without parts, of every kind.
func simpleValues() [][]impl.Cell {
	list := [][]impl.Cell{tree(impl.CellList, ""), leaf(impl.CellTruth, "true"), leaf(impl.CellTruth, "false")}
	for _, f := range validFractions() {
		list = append(list, leaf(impl.CellNumber, textOf(f)))
	}
	for _, word := range goodWords()[impl.CellText] {
		list = append(list, leaf(impl.CellText, word))
	}
	for _, word := range []string{",", ", ", "[", "]", "[]", "[1, 2]", "\", \"", "\\", "\\\\", "\"", "\n", "\\n", "1/3", "-1", "false"} {
		list = append(list, leaf(impl.CellText, word))
	}
	return list
}

// fewValues returns a value of every kind, and lists of lists.
func fewValues() [][]impl.Cell {
	empty := tree(impl.CellList, "")
	third, word := leaf(impl.CellNumber, "-1/3"), leaf(impl.CellText, "a, \"b\"]\\\n")
	return [][]impl.Cell{
		third, word, leaf(impl.CellTruth, "false"), leaf(impl.CellNumber, "2.5"), leaf(impl.CellText, ""), empty,
		tree(impl.CellList, "", empty), tree(impl.CellList, "", empty, empty), tree(impl.CellList, "", third, word),
		tree(impl.CellList, "", tree(impl.CellList, "", third), tree(impl.CellList, "", word, empty), leaf(impl.CellTruth, "true")),
	}
}

// listSteps returns steps for chains through every part of lists.
func listSteps() []func([]impl.Cell) []impl.Cell {
	third, empty := leaf(impl.CellNumber, "1/3"), tree(impl.CellList, "")
	return []func([]impl.Cell) []impl.Cell{
		func(v []impl.Cell) []impl.Cell { return tree(impl.CellList, "", v) },
		func(v []impl.Cell) []impl.Cell { return tree(impl.CellList, "", v, third) },
		func(v []impl.Cell) []impl.Cell { return tree(impl.CellList, "", empty, v) },
		func(v []impl.Cell) []impl.Cell { return tree(impl.CellList, "", third, empty, v, empty) },
	}
}

// wideValue returns a list of lists that has exactly so many cells; there are at least 2 and at most 73.
func wideValue(cells int) []impl.Cell {
	var parts [][]impl.Cell
	for left := cells - 1; left > 0; {
		n := min(left, impl.MaxParts+1)
		parts = append(parts, tree(impl.CellList, "", slices.Repeat([][]impl.Cell{leaf(impl.CellNumber, "-2/3")}, n-1)...))
		left -= n
	}
	return tree(impl.CellList, "", parts...)
}

// limitValues returns values at the limits of cells, depth, parts and words.
func limitValues() [][]impl.Cell {
	full := leaf(impl.CellText, strings.Repeat("\"", impl.MaxWord))
	var list [][]impl.Cell
	for n := impl.MaxCells - 10; n <= impl.MaxCells; n++ {
		list = append(list, wideValue(n))
	}
	for _, step := range listSteps() {
		for depth := 1; depth <= impl.MaxDepth; depth++ {
			list = append(list, chain(depth, step))
		}
	}
	for n := range impl.MaxParts + 1 {
		list = append(list, tree(impl.CellList, "", slices.Repeat([][]impl.Cell{full}, n)...))
	}
	return list
}

// randomValue returns a value of at most so many cells and at most that depth, whose parts without parts are some of the simple ones.
func randomValue(r *rand.Rand, simple [][]impl.Cell, cells int, depth int) []impl.Cell {
	many := r.Intn(impl.MaxParts + 1)
	if depth == 1 || cells < many+1 || r.Intn(4) == 0 {
		return simple[r.Intn(len(simple))]
	}
	parts := make([][]impl.Cell, many)
	left := cells - 1
	for k := range parts {
		// Every further part needs at least one cell.
		parts[k] = randomValue(r, simple, left-(many-1-k), depth-1)
		left -= len(parts[k])
	}
	return tree(impl.CellList, "", parts...)
}

func randomValues() [][]impl.Cell {
	r := rand.New(rand.NewSource(8))
	simple := simpleValues()
	var list [][]impl.Cell
	for k := range 1500 {
		list = append(list, randomValue(r, simple, 1+k%impl.MaxCells, 1+r.Intn(impl.MaxDepth)))
	}
	return list
}

func validValues() [][]impl.Cell {
	return slices.Concat(simpleValues(), fewValues(), limitValues(), randomValues())
}

// notValues returns cells that are no value: expressions of other kinds, alone and inside of lists, and cells that are no expression.
func notValues() [][]impl.Cell {
	list := invalidExprs()
	for _, s := range samples() {
		if _, ok := meaning(s.list); !ok {
			list = append(list, s.list)
		}
	}
	for _, word := range []string{"", "-", "-0", "01", "1.50", "1.0", "2/4", "2/2", "4/1", "0/1", "1/2", "3/5", "-2/6", "1/-3", "1/0", "1000000001", "-1000000001", "1/1000001", "1000000001/3", "0.0000001", "+1", "1/3 ", " 1/3", "a", "true"} {
		list = append(list, leaf(impl.CellNumber, word))
	}
	list = append(list, leaf(impl.CellText, strings.Repeat("x", impl.MaxWord+1)), leaf(impl.CellText, "\x01"), leaf(impl.CellTruth, "True"), leaf(impl.CellTruth, ""), []impl.Cell{{Kind: impl.CellList, Word: "f"}}, []impl.Cell{{Kind: impl.CellNumber, Word: "1/3", Many: 1}, {Kind: impl.CellTruth, Word: "true"}})
	list = append(list, wideValue(impl.MaxCells+1), wideValue(impl.MaxCells+13), tree(impl.CellList, "", slices.Repeat(fewValues()[:1], impl.MaxParts+1)...))
	for _, step := range listSteps() {
		list = append(list, chain(impl.MaxDepth+1, step), chain(impl.MaxDepth+2, step))
	}
	return list
}
