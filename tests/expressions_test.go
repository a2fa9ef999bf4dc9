package tests

import (
	"math"
	"math/rand"
	"slices"
	"testing"

	"loop.example/configformatter/impl"
)

// span is what is expected of the expression that begins at a place.
type span struct {
	from, to, depth int
	parts           []int
}

// expectedSpans returns a span for every cell of an expression, and nil for other cells. It goes from the last cell to the first one.
func expectedSpans(list []impl.Cell) []span {
	if len(list) == 0 || len(list) > 60 {
		return nil
	}
	spans := make([]span, len(list))
	// The whole expressions behind a place, the nearest one last.
	var behind []span
	for from := len(list) - 1; from >= 0; from-- {
		if !expectedCell(list[from]) || list[from].Many > len(behind) {
			return nil
		}
		s := span{from: from, to: from + 1, depth: 1}
		for range list[from].Many {
			part := behind[len(behind)-1]
			behind = behind[:len(behind)-1]
			s.parts = append(s.parts, part.from)
			s.to, s.depth = part.to, max(s.depth, part.depth+1)
		}
		behind = append(behind, s)
		spans[from] = s
	}
	if len(behind) != 1 || spans[0].depth > 12 {
		return nil
	}
	return spans
}

func leaf(kind int, word string) []impl.Cell {
	return []impl.Cell{{Kind: kind, Word: word}}
}

// tree returns the cells of an expression with parts.
func tree(kind int, word string, parts ...[]impl.Cell) []impl.Cell {
	return slices.Concat([]impl.Cell{{Kind: kind, Word: word, Many: len(parts)}}, slices.Concat(parts...))
}

// leaves returns expressions without parts, of every kind that allows it.
func leaves() [][]impl.Cell {
	list := [][]impl.Cell{tree(impl.CellList, ""), tree(impl.CellCall, "f")}
	for kind, words := range goodWords() {
		if kind >= impl.CellNumber && kind <= impl.CellName {
			for _, word := range words {
				list = append(list, leaf(kind, word))
			}
		}
	}
	return list
}

// chain returns an expression of a depth, in which every step puts the one before into a further one.
func chain(depth int, step func(inner []impl.Cell) []impl.Cell) []impl.Cell {
	list := leaf(impl.CellTruth, "true")
	for range depth - 1 {
		list = step(list)
	}
	return list
}

// chainSteps returns steps for chains through every part of every kind that has parts.
func chainSteps() []func([]impl.Cell) []impl.Cell {
	one := leaf(impl.CellNumber, "1")
	return []func([]impl.Cell) []impl.Cell{
		func(e []impl.Cell) []impl.Cell { return tree(impl.CellUnary, "!", e) },
		func(e []impl.Cell) []impl.Cell { return tree(impl.CellUnary, "-", e) },
		func(e []impl.Cell) []impl.Cell { return tree(impl.CellList, "", e) },
		func(e []impl.Cell) []impl.Cell { return tree(impl.CellCall, "f", e) },
		func(e []impl.Cell) []impl.Cell { return tree(impl.CellBinary, "+", e, one) },
		func(e []impl.Cell) []impl.Cell { return tree(impl.CellBinary, "&&", one, e) },
		func(e []impl.Cell) []impl.Cell { return tree(impl.CellChoice, "", e, one, one) },
		func(e []impl.Cell) []impl.Cell { return tree(impl.CellChoice, "", one, e, one) },
		func(e []impl.Cell) []impl.Cell { return tree(impl.CellChoice, "", one, one, e) },
		func(e []impl.Cell) []impl.Cell { return tree(impl.CellList, "", e, one, one, one) },
		func(e []impl.Cell) []impl.Cell { return tree(impl.CellCall, "f", one, e, one, one) },
		func(e []impl.Cell) []impl.Cell { return tree(impl.CellList, "", one, one, one, e) },
	}
}

// wide returns a list of lists that has exactly so many cells; there are at least 2 and at most 73.
func wide(cells int) []impl.Cell {
	var parts [][]impl.Cell
	for left := cells - 1; left > 0; {
		n := min(left, impl.MaxParts+1)
		parts = append(parts, tree(impl.CellList, "", slices.Repeat([][]impl.Cell{leaf(impl.CellName, "a")}, n-1)...))
		left -= n
	}
	return tree(impl.CellCall, "f", parts...)
}

// ordinaryExprs returns expressions of every kind, alone and inside each other.
func ordinaryExprs() [][]impl.Cell {
	list := leaves()
	words := goodWords()
	inner := [][]impl.Cell{
		leaf(impl.CellNumber, "2.5"), leaf(impl.CellText, "x"), leaf(impl.CellTruth, "false"), leaf(impl.CellName, "a.b"), tree(impl.CellList, ""),
		tree(impl.CellCall, "f", leaf(impl.CellName, "a"), leaf(impl.CellText, "")),
		tree(impl.CellUnary, "-", leaf(impl.CellNumber, "1")),
		tree(impl.CellBinary, "*", leaf(impl.CellName, "a"), tree(impl.CellBinary, "+", leaf(impl.CellName, "b"), leaf(impl.CellNumber, "1"))),
		tree(impl.CellChoice, "", leaf(impl.CellTruth, "true"), tree(impl.CellList, "", leaf(impl.CellNumber, "0")), leaf(impl.CellName, "c")),
	}
	for k, a := range inner {
		b, c := inner[(k+4)%len(inner)], inner[(k+7)%len(inner)]
		for _, word := range words[impl.CellUnary] {
			list = append(list, tree(impl.CellUnary, word, a))
		}
		for _, word := range words[impl.CellBinary] {
			list = append(list, tree(impl.CellBinary, word, a, b), tree(impl.CellBinary, word, b, a))
		}
		for _, word := range words[impl.CellCall] {
			list = append(list, tree(impl.CellCall, word, a, c, b))
		}
		list = append(list, tree(impl.CellChoice, "", a, b, c), tree(impl.CellChoice, "", c, a, b))
		for n := range impl.MaxParts + 1 {
			parts := slices.Repeat([][]impl.Cell{a}, n)
			list = append(list, tree(impl.CellList, "", parts...), tree(impl.CellCall, "max", parts...))
		}
	}
	return list
}

// edgeExprs returns expressions at the limits of cells, depth and parts.
func edgeExprs() [][]impl.Cell {
	var list [][]impl.Cell
	for n := impl.MaxCells - 10; n <= impl.MaxCells; n++ {
		list = append(list, wide(n))
	}
	for _, step := range chainSteps() {
		for depth := 1; depth <= impl.MaxDepth; depth++ {
			list = append(list, chain(depth, step))
		}
	}
	deepest := chain(impl.MaxDepth-1, chainSteps()[0])
	parts := slices.Repeat([][]impl.Cell{leaf(impl.CellText, "")}, impl.MaxParts-1)
	list = append(list,
		tree(impl.CellList, "", append([][]impl.Cell{deepest}, parts...)...),
		tree(impl.CellList, "", append(parts[:impl.MaxParts-1:impl.MaxParts-1], deepest)...),
		tree(impl.CellChoice, "", deepest, deepest, deepest),
		tree(impl.CellCall, "f", deepest, deepest, deepest, deepest, deepest),
	)
	return list
}

// randomExpr returns an expression of at most so many cells and at most that depth.
func randomExpr(r *rand.Rand, cells int, depth int) []impl.Cell {
	words := goodWords()
	kind := 1 + r.Intn(9)
	limits := partLimits[kind]
	many := limits[0] + r.Intn(limits[1]-limits[0]+1)
	if depth == 1 || cells < many+1 {
		kind, many = 1+r.Intn(4), 0
	}
	parts := make([][]impl.Cell, many)
	left := cells - 1
	for k := range parts {
		// Every further part needs at least one cell.
		parts[k] = randomExpr(r, left-(many-1-k), depth-1)
		left -= len(parts[k])
	}
	return tree(kind, words[kind][r.Intn(len(words[kind]))], parts...)
}

func randomExprs() [][]impl.Cell {
	r := rand.New(rand.NewSource(5))
	var list [][]impl.Cell
	for k := range 3000 {
		list = append(list, randomExpr(r, 1+k%impl.MaxCells, 1+r.Intn(impl.MaxDepth)))
	}
	return list
}

func validExprs() [][]impl.Cell {
	return slices.Concat(ordinaryExprs(), edgeExprs(), randomExprs())
}

// invalidExprs returns cells that are no expression, for every reason.
func invalidExprs() [][]impl.Cell {
	number, unary := impl.Cell{Kind: impl.CellNumber, Word: "1"}, impl.Cell{Kind: impl.CellUnary, Word: "!", Many: 1}
	list := [][]impl.Cell{
		nil, {}, {unary}, {number, number}, {number, unary}, {unary, unary}, {{}}, {unary, {}},
		{{Kind: impl.CellBinary, Word: "+", Many: 2}}, {{Kind: impl.CellBinary, Word: "+", Many: 2}, number},
		{{Kind: impl.CellChoice, Many: 3}, number, number}, {{Kind: impl.CellChoice, Many: 3}, number, number, number, number},
		{{Kind: impl.CellList}, number}, {{Kind: impl.CellList, Many: 1}}, {{Kind: impl.CellList, Many: 8}, number, number, number, number, number, number, number},
		{{Kind: impl.CellList, Many: math.MaxInt}, number}, {{Kind: impl.CellCall, Word: "f", Many: math.MinInt}, number}, {{Kind: impl.CellList, Many: -1}},
		wide(impl.MaxCells + 1), wide(impl.MaxCells + 2), wide(impl.MaxCells + 13),
		tree(impl.CellList, "", slices.Repeat([][]impl.Cell{{number}}, impl.MaxParts+1)...),
		tree(impl.CellCall, "f", slices.Repeat([][]impl.Cell{{number}}, impl.MaxParts+1)...),
	}
	for _, step := range chainSteps() {
		for depth := impl.MaxDepth + 1; depth <= impl.MaxDepth+4; depth++ {
			list = append(list, chain(depth, step))
		}
	}
	// A deep part is found wherever it stands.
	deep := chain(impl.MaxDepth, chainSteps()[2])
	list = append(list, tree(impl.CellBinary, "+", deep, []impl.Cell{number}), tree(impl.CellBinary, "+", []impl.Cell{number}, deep), tree(impl.CellChoice, "", []impl.Cell{number}, deep, []impl.Cell{number}))
	for _, c := range []impl.Cell{unary, number, {Kind: impl.CellBinary, Word: "-", Many: 2}, {Kind: impl.CellList, Many: 8}, {Kind: impl.CellList, Many: math.MaxInt}, {Kind: impl.CellChoice, Many: 3}} {
		for _, n := range []int{13, 59, 60, 61, 100, 100000} {
			list = append(list, slices.Repeat([]impl.Cell{c}, n), append(slices.Repeat([]impl.Cell{c}, n-1), unary, number, number))
		}
	}
	return list
}

// placesAround returns the places of cells and others, up to the least and the greatest int.
func placesAround(list []impl.Cell) []int {
	n := len(list)
	places := []int{math.MinInt, math.MinInt + 1, -100, -2, -1, n, n + 1, n + 2, 2 * n, n + 100, 1 << 32, math.MaxInt - 1, math.MaxInt}
	for at := range min(n, impl.MaxCells+2) {
		places = append(places, at)
	}
	return places
}

// checkExpr compares what all functions return for cells with what is expected, and looks whether the cells stay.
func checkExpr(t *testing.T, list []impl.Cell) {
	t.Helper()
	spans, before := expectedSpans(list), slices.Clone(list)
	if got := impl.ExprValid(list); got != (spans != nil) {
		t.Errorf("ExprValid of %d cells %.300v is %v", len(list), list, got)
	}
	depth := -1
	if spans != nil {
		depth = spans[0].depth
	}
	if got := impl.ExprDepth(list); got != depth {
		t.Errorf("ExprDepth of %d cells %.300v is %d, not %d", len(list), list, got, depth)
	}
	for _, at := range placesAround(list) {
		end, parts := -1, []int(nil)
		if at >= 0 && at < len(spans) {
			end, parts = spans[at].to, spans[at].parts
		}
		if got := impl.ExprEnd(list, at); got != end {
			t.Errorf("ExprEnd of %d cells %.300v at %d is %d, not %d", len(list), list, at, got, end)
		}
		if got := impl.ExprParts(list, at); !slices.Equal(got, parts) {
			t.Errorf("ExprParts of %d cells %.300v at %d is %v, not %v", len(list), list, at, got, parts)
		}
	}
	if !slices.Equal(list, before) {
		t.Errorf("%.300v was changed to %.300v", before, list)
	}
}

func TestExpressionConstants(t *testing.T) {
	got := []int{
		impl.CellNumber, impl.CellText, impl.CellTruth, impl.CellName, impl.CellList, impl.CellCall, impl.CellUnary, impl.CellBinary, impl.CellChoice,
		impl.MaxCells, impl.MaxDepth, impl.MaxParts, impl.MaxWord,
	}
	if !slices.Equal(got, []int{1, 2, 3, 4, 5, 6, 7, 8, 9, 60, 12, 8, 60}) {
		t.Fatal(got)
	}
}

// The expression is [1, f(a, "x"), !true ? b.c : -2.5].
func TestExpressionByHand(t *testing.T) {
	list := tree(impl.CellList, "",
		leaf(impl.CellNumber, "1"),
		tree(impl.CellCall, "f", leaf(impl.CellName, "a"), leaf(impl.CellText, "x")),
		tree(impl.CellChoice, "",
			tree(impl.CellUnary, "!", leaf(impl.CellTruth, "true")), leaf(impl.CellName, "b.c"), tree(impl.CellUnary, "-", leaf(impl.CellNumber, "2.5"))))
	ends := []int{11, 2, 5, 4, 5, 11, 8, 8, 9, 11, 11}
	parts := [][]int{{1, 2, 5}, nil, {3, 4}, nil, nil, {6, 8, 9}, {7}, nil, nil, {10}, nil}
	if !impl.ExprValid(list) || impl.ExprDepth(list) != 4 {
		t.Errorf("the expression has the depth %d", impl.ExprDepth(list))
	}
	for at := range list {
		if impl.ExprEnd(list, at) != ends[at] || !slices.Equal(impl.ExprParts(list, at), parts[at]) {
			t.Errorf("at %d the end is %d and the parts are %v", at, impl.ExprEnd(list, at), impl.ExprParts(list, at))
		}
	}
	for _, at := range []int{-1, 11, 12, math.MinInt, math.MaxInt} {
		if impl.ExprEnd(list, at) != -1 || len(impl.ExprParts(list, at)) != 0 {
			t.Errorf("at %d the end is %d and the parts are %v", at, impl.ExprEnd(list, at), impl.ExprParts(list, at))
		}
	}
}

func TestExpressions(t *testing.T) {
	for _, list := range validExprs() {
		if expectedSpans(list) == nil {
			t.Fatalf("%v should be an expression", list)
		}
		checkExpr(t, list)
	}
	if cells := wide(impl.MaxCells); len(cells) != impl.MaxCells || len(wide(impl.MaxCells+1)) != impl.MaxCells+1 {
		t.Fatalf("there are %d cells", len(cells))
	}
}

func TestExpressionsAreRefused(t *testing.T) {
	for _, list := range invalidExprs() {
		if expectedSpans(list) != nil {
			t.Fatalf("%.300v should be no expression", list)
		}
		checkExpr(t, list)
	}
}

// checkShort checks all lists that begin with some cells and have at most so many more.
func checkShort(t *testing.T, list []impl.Cell, more int, alphabet []impl.Cell) {
	checkExpr(t, list)
	if more == 0 {
		return
	}
	for _, c := range alphabet {
		checkShort(t, append(slices.Clip(list), c), more-1, alphabet)
	}
}

func TestShortLists(t *testing.T) {
	checkShort(t, nil, 5, []impl.Cell{
		{Kind: impl.CellNumber, Word: "1"}, {Kind: impl.CellList}, {Kind: impl.CellList, Many: 2}, {Kind: impl.CellCall, Word: "f", Many: 1},
		{Kind: impl.CellUnary, Word: "-", Many: 1}, {Kind: impl.CellBinary, Word: "-", Many: 2}, {Kind: impl.CellChoice, Many: 3}, {Kind: impl.CellName, Word: "a", Many: 1},
	})
}

// Every cell of an expression counts: with one that is changed, left out, or put in, it is what the spans tell.
func TestChangedExpressions(t *testing.T) {
	r := rand.New(rand.NewSource(7))
	words, kinds, parts := candidateWords(), candidateKinds(), candidateParts()
	for _, list := range slices.Concat(ordinaryExprs(), edgeExprs(), randomExprs()[:1000]) {
		at := r.Intn(len(list))
		for _, c := range []impl.Cell{
			{Kind: kinds[r.Intn(len(kinds))], Word: list[at].Word, Many: list[at].Many},
			{Kind: list[at].Kind, Word: words[r.Intn(len(words))], Many: list[at].Many},
			{Kind: list[at].Kind, Word: list[at].Word, Many: parts[r.Intn(len(parts))]},
			{Kind: impl.CellTruth, Word: "true"},
		} {
			checkExpr(t, slices.Concat(list[:at], []impl.Cell{c}, list[at+1:]))
			checkExpr(t, slices.Concat(list[:at], []impl.Cell{c}, list[at:]))
		}
		checkExpr(t, slices.Concat(list[:at], list[at+1:]))
		checkExpr(t, slices.Concat(list, list[at:]))
	}
}

// Promise 31: expressions have all their parts.
func TestExpressionsHaveAllTheirParts(t *testing.T) {
	valid, deep, long := 0, 0, 0
	for _, list := range validExprs() {
		for n := range list {
			if impl.ExprValid(list[:n]) {
				t.Errorf("%v is valid without all behind %d", list, n)
			}
		}
		for _, word := range []string{"!", "-"} {
			more := tree(impl.CellUnary, word, list)
			fits := len(more) <= 60 && impl.ExprDepth(list) < 12
			if got := impl.ExprValid(more); got != fits {
				t.Errorf("%v is %v", more, got)
			}
			switch {
			case fits:
				valid++
			case len(more) > 60:
				long++
			default:
				deep++
			}
		}
		if impl.ExprValid(slices.Concat(list, leaf(impl.CellTruth, "true"))) || impl.ExprValid(slices.Concat(list, list)) {
			t.Errorf("%v is valid with something behind it", list)
		}
	}
	if valid == 0 || deep == 0 || long == 0 {
		t.Errorf("with a sign before them %d are valid, %d too deep and %d too long", valid, deep, long)
	}
}

// Promise 32: expressions end.
func TestExpressionsEnd(t *testing.T) {
	for _, list := range validExprs() {
		if impl.ExprEnd(list, 0) != len(list) || impl.ExprEnd(list, len(list)-1) != len(list) {
			t.Errorf("%v ends at %d", list, impl.ExprEnd(list, 0))
		}
		for at := range list {
			end := impl.ExprEnd(list, at)
			if end <= at || end > len(list) || !impl.ExprValid(list[at:end]) {
				t.Errorf("%v ends from %d on at %d", list, at, end)
			}
		}
	}
}

// Promise 33: parts follow each other.
func TestPartsFollowEachOther(t *testing.T) {
	for _, list := range validExprs() {
		for at, c := range list {
			parts, end := impl.ExprParts(list, at), at+1
			if len(parts) != c.Many {
				t.Errorf("%v has at %d the parts %v", list, at, parts)
			}
			for _, part := range parts {
				if part != end {
					t.Errorf("%v has at %d a part at %d, and not at %d", list, at, part, end)
				}
				end = impl.ExprEnd(list, part)
			}
			if end != impl.ExprEnd(list, at) {
				t.Errorf("the last part of %v at %d ends at %d", list, at, end)
			}
		}
	}
}

// Promise 34: depths are those of parts.
func TestDepthsAreThoseOfParts(t *testing.T) {
	for _, list := range validExprs() {
		for at := range list {
			deepest := 0
			for _, part := range impl.ExprParts(list, at) {
				deepest = max(deepest, impl.ExprDepth(list[part:impl.ExprEnd(list, part)]))
			}
			if got := impl.ExprDepth(list[at:impl.ExprEnd(list, at)]); got != deepest+1 {
				t.Errorf("%v has at %d the depth %d, and its parts %d", list, at, got, deepest)
			}
		}
	}
	for _, step := range chainSteps() {
		for depth := 1; depth <= impl.MaxDepth+3; depth++ {
			want := depth
			if depth > impl.MaxDepth {
				want = -1
			}
			if got := impl.ExprDepth(chain(depth, step)); got != want {
				t.Errorf("a chain of the depth %d has the depth %d", depth, got)
			}
		}
	}
}

// What stands in the memory behind the end of a list is no part of it.
func TestCellsBehindTheEnd(t *testing.T) {
	for _, list := range slices.Concat(ordinaryExprs(), edgeExprs()) {
		room := slices.Concat(list, list)
		checkExpr(t, room[:len(list)])
		checkExpr(t, room[:len(list)-1])
		checkExpr(t, room[:len(list)+1])
	}
}

func TestPartsAreNew(t *testing.T) {
	list := tree(impl.CellList, "", leaf(impl.CellNumber, "1"), leaf(impl.CellNumber, "2"), leaf(impl.CellNumber, "3"))
	first, second := impl.ExprParts(list, 0), impl.ExprParts(list, 0)
	first[0] = 7
	_ = append(first[:1], 8, 9, 10)
	if !slices.Equal(second, []int{1, 2, 3}) {
		t.Errorf("the parts became %v", second)
	}
	checkExpr(t, list)
}
