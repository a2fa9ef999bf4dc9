package tests

import (
	"math/rand"
	"slices"
	"strings"
	"testing"

	"loop.example/configformatter/impl"
)

// sample is an expression of a strength, with its text.
type sample struct {
	strength string
	text     string
	list     []impl.Cell
}

// samples returns expressions of every kind and every sign.
func samples() []sample {
	x, y, z := leaf(impl.CellName, "x"), leaf(impl.CellName, "y.z"), leaf(impl.CellNumber, "1.5")
	list := []sample{
		{"single", "0", leaf(impl.CellNumber, "0")}, {"single", "1.5", z}, {"single", "1000000000", leaf(impl.CellNumber, "1000000000")}, {"single", "0.000001", leaf(impl.CellNumber, "0.000001")},
		{"single", `""`, leaf(impl.CellText, "")}, {"single", `"a + b"`, leaf(impl.CellText, "a + b")}, {"single", `"(\"\\\n#)"`, leaf(impl.CellText, "(\"\\\n#)")},
		{"single", "true", leaf(impl.CellTruth, "true")}, {"single", "false", leaf(impl.CellTruth, "false")}, {"single", "x", x}, {"single", "y.z", y},
		{"single", "[]", tree(impl.CellList, "")}, {"single", "[x]", tree(impl.CellList, "", x)}, {"single", "[x, y.z, 1.5]", tree(impl.CellList, "", x, y, z)},
		{"single", "f()", tree(impl.CellCall, "f")}, {"single", "f(x)", tree(impl.CellCall, "f", x)}, {"single", "max(x, y.z, 1.5)", tree(impl.CellCall, "max", x, y, z)},
		{"unary", "!x", tree(impl.CellUnary, "!", x)}, {"unary", "-x", tree(impl.CellUnary, "-", x)},
		{"choice", "x ? y.z : 1.5", tree(impl.CellChoice, "", x, y, z)},
	}
	for rank, strength := range []string{"or", "and", "compare", "sum", "product"} {
		for _, sign := range signRanks[rank] {
			list = append(list, sample{strength, "x " + sign + " y.z", tree(impl.CellBinary, sign, x, y)})
		}
	}
	return list
}

// position is a place for a part in an expression: what stands before and behind it, which strengths need parentheses there, and the expression with the part.
type position struct {
	before, behind string
	weaker         string
	with           func(part []impl.Cell) []impl.Cell
}

// positions returns the places for parts of every kind and every sign.
func positions() []position {
	a, b := leaf(impl.CellName, "a"), leaf(impl.CellName, "b")
	list := []position{
		{"[", "]", "", func(e []impl.Cell) []impl.Cell { return tree(impl.CellList, "", e) }},
		{"[", ", a, b]", "", func(e []impl.Cell) []impl.Cell { return tree(impl.CellList, "", e, a, b) }},
		{"[a, ", ", b]", "", func(e []impl.Cell) []impl.Cell { return tree(impl.CellList, "", a, e, b) }},
		{"[a, b, ", "]", "", func(e []impl.Cell) []impl.Cell { return tree(impl.CellList, "", a, b, e) }},
		{"g(", ")", "", func(e []impl.Cell) []impl.Cell { return tree(impl.CellCall, "g", e) }},
		{"g(", ", a)", "", func(e []impl.Cell) []impl.Cell { return tree(impl.CellCall, "g", e, a) }},
		{"g(a, ", ")", "", func(e []impl.Cell) []impl.Cell { return tree(impl.CellCall, "g", a, e) }},
		{"!", "", "choice or and compare sum product", func(e []impl.Cell) []impl.Cell { return tree(impl.CellUnary, "!", e) }},
		{"-", "", "choice or and compare sum product", func(e []impl.Cell) []impl.Cell { return tree(impl.CellUnary, "-", e) }},
		{"", " ? a : b", "choice", func(e []impl.Cell) []impl.Cell { return tree(impl.CellChoice, "", e, a, b) }},
		{"a ? ", " : b", "", func(e []impl.Cell) []impl.Cell { return tree(impl.CellChoice, "", a, e, b) }},
		{"a ? b : ", "", "", func(e []impl.Cell) []impl.Cell { return tree(impl.CellChoice, "", a, b, e) }},
	}
	weaker := [][2]string{
		{"choice", "choice or"},
		{"choice or", "choice or and"},
		{"choice or and compare", "choice or and compare"},
		{"choice or and compare", "choice or and compare sum"},
		{"choice or and compare sum", "choice or and compare sum product"},
	}
	for rank, signs := range signRanks {
		for _, sign := range signs {
			list = append(list,
				position{"", " " + sign + " a", weaker[rank][0], func(e []impl.Cell) []impl.Cell { return tree(impl.CellBinary, sign, e, a) }},
				position{"a " + sign + " ", "", weaker[rank][1], func(e []impl.Cell) []impl.Cell { return tree(impl.CellBinary, sign, a, e) }})
		}
	}
	return list
}

// put writes a part of a strength at the position.
func (p position) put(strength string, text string) string {
	if slices.Contains(strings.Fields(p.weaker), strength) {
		text = "(" + text + ")"
	}
	return p.before + text + p.behind
}

// Every kind is printed, alone and as each part of every kind; so each pair of strengths is there, on both sides.
func TestKindsInKindsArePrinted(t *testing.T) {
	for _, s := range samples() {
		if got := impl.ExprText(s.list); got != s.text {
			t.Errorf("the text of %s is %q and not %q", shape(s.list), got, s.text)
		}
		checkText(t, s.list)
		for _, p := range positions() {
			list := p.with(s.list)
			if got, want := impl.ExprText(list), p.put(s.strength, s.text); got != want {
				t.Errorf("the text of %s is %q and not %q", shape(list), got, want)
			}
			checkText(t, list)
		}
	}
}

func TestBinarySignsAreFormatted(t *testing.T) {
	checkFormats(t, [][2]string{
		{"a-b", "a - b"}, {"a - b", "a - b"}, {"((a))-((b))", "a - b"}, {"((a - b))", "a - b"},
		{"a-(b-c)", "a - (b - c)"}, {"(a-b)-c", "a - b - c"}, {"a-b-c", "a - b - c"}, {"a+(b+c)", "a + (b + c)"}, {"(a+b)+c", "a + b + c"}, {"a+(b-c)", "a + (b - c)"}, {"a-(b+c)+d", "a - (b + c) + d"}, {"(a-(b-c))-d", "a - (b - c) - d"}, {"a-((b-c)-d)", "a - (b - c - d)"},
		{"a*(b*c)", "a * (b * c)"}, {"(a*b)*c", "a * b * c"}, {"a/(b%c)", "a / (b % c)"}, {"(a/b)%c", "a / b % c"}, {"(a*b)+(c*d)", "a * b + c * d"}, {"(a+b)*(c+d)", "(a + b) * (c + d)"}, {"a+(b*c)", "a + b * c"}, {"a*(b+c)", "a * (b + c)"}, {"(a*b)+c", "a * b + c"}, {"(a+b)*c", "(a + b) * c"},
		{"(a<b)==c", "(a < b) == c"}, {"a==(b<c)", "a == (b < c)"}, {"(a<b)==(c>d)", "(a < b) == (c > d)"}, {"(a==b)==c", "(a == b) == c"}, {"a==(b==c)", "a == (b == c)"}, {"(a+b)<(c*d)", "a + b < c * d"}, {"(a<b)+(c<d)", "(a < b) + (c < d)"}, {"(a!=b)&&(c>=d)", "a != b && c >= d"}, {"a<=(b&&c)", "a <= (b && c)"}, {"((a<b)==c)!=d", "((a < b) == c) != d"}, {"a<(b+(c<d))", "a < b + (c < d)"},
		{"(a&&b)||(c&&d)", "a && b || c && d"}, {"(a||b)&&(c||d)", "(a || b) && (c || d)"}, {"a||(b||c)", "a || (b || c)"}, {"(a||b)||c", "a || b || c"}, {"a&&(b&&c)", "a && (b && c)"}, {"(a&&b)&&c", "a && b && c"}, {"a||(b&&c)", "a || b && c"}, {"(a||b)&&c", "(a || b) && c"},
		{"(((((a*b)+c)<d)&&e)||f)?g:h", "a * b + c < d && e || f ? g : h"}, {"a*(b+(c<(d&&(e||(f?g:h)))))", "a * (b + (c < (d && (e || (f ? g : h)))))"}, {"((((a||b)&&c)<d)+e)*f", "((((a || b) && c) < d) + e) * f"},
	})
}

func TestChoicesAreFormatted(t *testing.T) {
	checkFormats(t, [][2]string{
		{"a?b:c", "a ? b : c"}, {"(a)?(b):(c)", "a ? b : c"}, {"(a?b:c)", "a ? b : c"}, {"(a?b:c)?d:e", "(a ? b : c) ? d : e"}, {"a?(b?c:d):e", "a ? b ? c : d : e"}, {"a?b:(c?d:e)", "a ? b : c ? d : e"},
		{"((a?b:c)?d:e)?f:g", "((a ? b : c) ? d : e) ? f : g"}, {"(a?b:c)?(d?e:f):(g?h:i)", "(a ? b : c) ? d ? e : f : g ? h : i"}, {"a?(b?(c?d:e):f):g", "a ? b ? c ? d : e : f : g"}, {"a?b:(c?d:(e?f:g))", "a ? b : c ? d : e ? f : g"}, {"(a?(b?c:d):e)?f:g", "(a ? b ? c : d : e) ? f : g"},
		{"(a||b)?(c||d):(e||f)", "a || b ? c || d : e || f"}, {"a||(b?c:d)", "a || (b ? c : d)"}, {"(a?b:c)||d", "(a ? b : c) || d"}, {"a?b:(c||d)", "a ? b : c || d"}, {"(a?b:c)+(d?e:f)", "(a ? b : c) + (d ? e : f)"}, {"!(a?b:c)", "!(a ? b : c)"}, {"(!a)?(-b):(!c)", "!a ? -b : !c"},
		{"[(a?b:c)]", "[a ? b : c]"}, {"f((a?b:c),(d?e:f))", "f(a ? b : c, d ? e : f)"}, {"(a==b)?(c==d):(e==f)", "a == b ? c == d : e == f"}, {"[a]?[b]:[c]", "[a] ? [b] : [c]"}, {`"?"?":":"a ? b : c"`, `"?" ? ":" : "a ? b : c"`},
	})
}

func TestUnarySignsAreFormatted(t *testing.T) {
	checkFormats(t, [][2]string{
		{"- - 1", "--1"}, {"-(-(1))", "--1"}, {"!(!(!(a)))", "!!!a"}, {"!(-a)", "!-a"}, {"-(!a)", "-!a"}, {"- 1.50", "-1.5"}, {"-(0)", "-0"}, {"!(true)", "!true"}, {"-(a.b)", "-a.b"}, {"!(f(a))", "!f(a)"}, {"-([1])", "-[1]"}, {`-("x")`, `-"x"`}, {"-([])", "-[]"}, {"!(f())", "!f()"},
		{"-(a*b)", "-(a * b)"}, {"(-a)*b", "-a * b"}, {"-a*b", "-a * b"}, {"-(a+b)", "-(a + b)"}, {"(-a)+b", "-a + b"}, {"!(a<b)", "!(a < b)"}, {"(!a)<b", "!a < b"}, {"!(a&&b)", "!(a && b)"}, {"(!a)&&b", "!a && b"}, {"!(a||b)", "!(a || b)"}, {"(!a)||b", "!a || b"}, {"-(a?b:c)", "-(a ? b : c)"}, {"(-a)?b:c", "-a ? b : c"},
		{"a-(-b)", "a - -b"}, {"a--b", "a - -b"}, {"a---b", "a - --b"}, {"a*(-b)", "a * -b"}, {"a*(-(-b))", "a * --b"}, {"a==(!b)", "a == !b"}, {"a!=!b", "a != !b"}, {"a&&(!b)", "a && !b"}, {"!(!(a&&b))", "!!(a && b)"}, {"-(-(a-b))", "--(a - b)"}, {"-(-a-b)", "-(-a - b)"}, {"(-(a-b))-c", "-(a - b) - c"},
		{"[-a,(!b)]", "[-a, !b]"}, {"f((-a))", "f(-a)"}, {"a?(-b):(!c)", "a ? -b : !c"},
	})
}

func TestSeriesAreFormatted(t *testing.T) {
	checkFormats(t, [][2]string{
		{"[ ]", "[]"}, {"f( )", "f()"}, {"[a ]", "[a]"}, {"f (a)", "f(a)"}, {"[1,2,3]", "[1, 2, 3]"}, {"f(1 ,2 ,3)", "f(1, 2, 3)"}, {"f( 1,[ 2 ] )", "f(1, [2])"}, {"[[],[[]],f(),[f()]]", "[[], [[]], f(), [f()]]"}, {"[(a+b),(c)]", "[a + b, c]"}, {"f((a),((b*c)))", "f(a, b * c)"}, {"[a,b]+[c]", "[a, b] + [c]"}, {"f(a)-(g(b)-h())", "f(a) - (g(b) - h())"},
		{"([1])", "[1]"}, {"(f(1))", "f(1)"}, {"f(((a||b)))&&c", "f(a || b) && c"}, {"[a<b,(c<d)]", "[a < b, c < d]"}, {"[1,2,3,4,5,6,7,8]", "[1, 2, 3, 4, 5, 6, 7, 8]"}, {"f(1,2,3,4,5,6,7,8)", "f(1, 2, 3, 4, 5, 6, 7, 8)"}, {"[1,2,3,4,5,6,7,8,9]", ""}, {"f(1,2,3,4,5,6,7,8,9)", ""},
	})
	for n := range impl.MaxParts + 1 {
		parts := slices.Repeat([][]impl.Cell{leaf(impl.CellTruth, "true")}, n)
		inner := strings.TrimSuffix(strings.Repeat("true, ", n), ", ")
		if got := impl.ExprText(tree(impl.CellList, "", parts...)); got != "["+inner+"]" {
			t.Errorf("a list of %d parts is %q", n, got)
		}
		if got := impl.ExprText(tree(impl.CellCall, "max", parts...)); got != "max("+inner+")" {
			t.Errorf("a call with %d parts is %q", n, got)
		}
	}
}

func TestWordsAreFormatted(t *testing.T) {
	checkFormats(t, [][2]string{
		{"01.50", "1.5"}, {"007", "7"}, {"1.000000", "1"}, {"0.0", "0"}, {"0000000001.500000", "1.5"}, {"1000000000.0", "1000000000"}, {"0.000010", "0.00001"}, {"01/3.0", "1 / 3"},
		{"true", "true"}, {"( false )", "false"}, {"a.b", "a.b"}, {"(true.a)", "true.a"},
		{`"#"`, `"#"`}, {`"a  b"`, `"a  b"`}, {`"  "`, `"  "`}, {`"(a)"`, `"(a)"`}, {`("((")`, `"(("`}, {`"a+b,c?d:e"`, `"a+b,c?d:e"`}, {`"a"+"b"`, `"a" + "b"`}, {`["\"","\\","\n"]`, `["\"", "\\", "\n"]`}, {`f("# \\\" )")`, `f("# \\\" )")`}, {`"\\n"`, `"\\n"`}, {`"01.50"`, `"01.50"`}, {`"`, ""}, {`"\q"`, ""},
	})
	words := append(quotableTexts(), "\"", "\\", "\n", "#", "(", ")", "\"(\\\n#)", "a, b", "a ? b : c", strings.Repeat("\"", 60), strings.Repeat("\\", 60), strings.Repeat("\n", 60), strings.Repeat("(", 60), strings.Repeat(" ", 60), strings.Repeat("\"", 61))
	words = append(words, textsUpTo(3, "a\"\\\n#( ")...)
	for _, word := range words {
		checkText(t, leaf(impl.CellText, word))
		checkText(t, tree(impl.CellCall, "f", leaf(impl.CellText, word), tree(impl.CellUnary, "-", leaf(impl.CellText, word))))
		checkText(t, tree(impl.CellBinary, "+", leaf(impl.CellText, word), tree(impl.CellBinary, "+", leaf(impl.CellText, word), leaf(impl.CellNumber, "1"))))
	}
	for kind, list := range goodWords() {
		for _, word := range list {
			if kind >= impl.CellNumber && kind <= impl.CellName && kind != impl.CellText && impl.ExprText(leaf(kind, word)) != word {
				t.Errorf("the text of %q is %q", word, impl.ExprText(leaf(kind, word)))
			}
		}
	}
}

// smallExprs returns all expressions of at most so many cells that are made of some cells.
func smallExprs(cells int, alphabet []impl.Cell) [][]impl.Cell {
	var list [][]impl.Cell
	// A list waits for so many more expressions.
	var grow func(before []impl.Cell, waiting int)
	grow = func(before []impl.Cell, waiting int) {
		if waiting == 0 {
			list = append(list, before)
			return
		}
		for _, c := range alphabet {
			if len(before)+waiting+c.Many <= cells {
				grow(append(slices.Clip(before), c), waiting-1+c.Many)
			}
		}
	}
	grow(nil, 1)
	return list
}

// mixedCells returns a cell of every kind, and one of every strength.
func mixedCells() []impl.Cell {
	return []impl.Cell{
		{Kind: impl.CellName, Word: "a"}, {Kind: impl.CellUnary, Word: "-", Many: 1}, {Kind: impl.CellList, Many: 1}, {Kind: impl.CellCall, Word: "f", Many: 1}, {Kind: impl.CellChoice, Many: 3},
		{Kind: impl.CellBinary, Word: "||", Many: 2}, {Kind: impl.CellBinary, Word: "&&", Many: 2}, {Kind: impl.CellBinary, Word: "<", Many: 2}, {Kind: impl.CellBinary, Word: "-", Many: 2}, {Kind: impl.CellBinary, Word: "*", Many: 2},
	}
}

// There is one text with the fewest parentheses, which is the printed one.
func TestParenthesesAreFew(t *testing.T) {
	mixed := mixedCells()
	for _, list := range smallExprs(6, mixed) {
		checkText(t, list)
		checkFewest(t, list)
	}
	for _, alphabet := range [][]impl.Cell{
		{mixed[0], mixed[4]}, {mixed[0], mixed[8], {Kind: impl.CellBinary, Word: "+", Many: 2}}, {mixed[0], mixed[7], {Kind: impl.CellBinary, Word: "==", Many: 2}}, {mixed[0], mixed[5], mixed[6]}, {mixed[0], mixed[8], mixed[9]}, {mixed[0], mixed[4], mixed[7]},
	} {
		for _, list := range smallExprs(7, alphabet) {
			checkText(t, list)
			checkFewest(t, list)
		}
	}
	for _, list := range smallExprs(7, append(mixed[1:2:2], mixed[0], mixed[4], mixed[7], mixed[8])) {
		checkText(t, list)
	}
}

// checkNeeded looks that no parentheses of a printed text can be left out, and returns how many there are.
func checkNeeded(t *testing.T, list []impl.Cell) int {
	t.Helper()
	words := impl.WordsOf(impl.ExprText(list))
	all := pairs(words)
	for _, pair := range all {
		s := strings.Join(lacking(words, pair), " ")
		if other, _ := impl.ReadExpr(s); slices.Equal(other, list) {
			t.Errorf("%q is read like %q", s, impl.ExprText(list))
		}
	}
	return len(all)
}

func TestParenthesesAreNeeded(t *testing.T) {
	n := 0
	for _, list := range slices.Concat(validExprs(), limitExprs(), smallExprs(6, mixedCells())) {
		n += checkNeeded(t, list)
	}
	if n < 1000 {
		t.Errorf("there are only %d parentheses", n)
	}
}

// bushy returns an expression of binary signs that is as shallow as it can be, with so many signs.
func bushy(sign string, n int) []impl.Cell {
	if n == 0 {
		return leaf(impl.CellName, "a")
	}
	return tree(impl.CellBinary, sign, bushy(sign, (n-1)/2), bushy(sign, n/2))
}

// longest returns expressions with the most bytes: all of their words have as many as they can.
func longest() [][]impl.Cell {
	name := strings.Repeat("n", impl.MaxName)
	text := leaf(impl.CellText, strings.Repeat("\"", impl.MaxWord))
	parts := slices.Repeat([][]impl.Cell{text}, impl.MaxParts)
	call := tree(impl.CellCall, name, parts...)
	some := tree(impl.CellCall, name, parts[:4]...)
	sum := text
	for range 7 {
		sum = tree(impl.CellBinary, "||", sum, text)
	}
	return [][]impl.Cell{
		tree(impl.CellCall, name, call, call, call, call, call, call, some),
		tree(impl.CellCall, name, call, call, call, call, text, text, text, sum),
		tree(impl.CellList, "", sum, sum, sum, text, text, text, text, tree(impl.CellList, "", parts...)),
	}
}

// signSteps returns steps for chains through both parts of every binary sign.
func signSteps() []func([]impl.Cell) []impl.Cell {
	a := leaf(impl.CellName, "a")
	var list []func([]impl.Cell) []impl.Cell
	for _, sign := range slices.Concat(signRanks...) {
		list = append(list,
			func(e []impl.Cell) []impl.Cell { return tree(impl.CellBinary, sign, e, a) },
			func(e []impl.Cell) []impl.Cell { return tree(impl.CellBinary, sign, a, e) })
	}
	return list
}

// mixedChain returns an expression of a depth in which two steps alternate.
func mixedChain(depth int, one, two func([]impl.Cell) []impl.Cell) []impl.Cell {
	list := leaf(impl.CellName, "a")
	for k := range depth - 1 {
		if k%2 == 0 {
			list = one(list)
		} else {
			list = two(list)
		}
	}
	return list
}

// bushyChoice returns an expression of so many choices that is as shallow as it can be.
func bushyChoice(n int) []impl.Cell {
	if n == 0 {
		return leaf(impl.CellName, "a")
	}
	return tree(impl.CellChoice, "", bushyChoice((n-1)/3), bushyChoice(n/3), bushyChoice((n+1)/3))
}

// limitExprs returns expressions of MaxCells cells and of the depth MaxDepth, of every kind and mixed.
func limitExprs() [][]impl.Cell {
	list := slices.Concat(edgeExprs(), longest())
	steps := slices.Concat(chainSteps(), signSteps())
	for _, one := range steps {
		for _, two := range steps {
			list = append(list, mixedChain(impl.MaxDepth, one, two))
		}
	}
	for _, sign := range slices.Concat(signRanks...) {
		list = append(list, bushy(sign, 29), tree(impl.CellUnary, "!", bushy(sign, 29)), tree(impl.CellCall, "f", bushy(sign, 29)))
	}
	choices := bushyChoice(19)
	return append(list, choices, tree(impl.CellUnary, "-", choices), tree(impl.CellList, "", tree(impl.CellUnary, "!", choices)))
}

func TestLimitsArePrinted(t *testing.T) {
	for _, list := range limitExprs() {
		if expectedSpans(list) == nil {
			t.Fatalf("%s should be an expression", shape(list))
		}
		checkText(t, list)
		checkText(t, append(slices.Clip(list), impl.Cell{Kind: impl.CellTruth, Word: "true"}))
	}
	for _, step := range slices.Concat(chainSteps(), signSteps()) {
		if s := impl.ExprText(chain(impl.MaxDepth+1, step)); s != "" {
			t.Errorf("a chain that is too deep has the text %q", s)
		}
	}
	for n := impl.MaxCells - 2; n <= impl.MaxCells+2; n++ {
		checkText(t, wide(n))
	}
}

// The expression with the most parentheses has a comparison in every place where one fits.
func TestMostParentheses(t *testing.T) {
	list := tree(impl.CellUnary, "!", bushy("<", 29))
	if s := impl.ExprText(list); len(list) != impl.MaxCells || strings.Count(s, "(") != 29 || strings.Count(s, ")") != 29 {
		t.Errorf("of %d cells the text is %q", len(list), s)
	}
	if n := checkNeeded(t, list); n != 29 {
		t.Errorf("there are %d parentheses", n)
	}
	nest := mixedChain(impl.MaxDepth, signSteps()[4], chainSteps()[0])
	if s := impl.ExprText(nest); s != "!(!(!(!(!(a == a) == a) == a) == a) == a) == a" {
		t.Errorf("the deepest text is %q", s)
	}
}

// The longest text is printed and read; it is far from MaxText.
func TestLongestText(t *testing.T) {
	most := 0
	for _, list := range longest() {
		s := impl.ExprText(list)
		most = max(most, len(s))
		if back, ok := impl.ReadExpr(s); !ok || !slices.Equal(back, list) {
			t.Errorf("a text of %d bytes is not read back", len(s))
		}
	}
	// There are 52 texts of 122 bytes, 8 names of 12 bytes with parentheses, and ", " between the parts of every call.
	if want := 52*122 + 8*14 + 2*(6+6*7+3); most != want {
		t.Errorf("the longest text has %d bytes and not %d", most, want)
	}
}

func TestCellsWithoutTexts(t *testing.T) {
	for _, list := range append(invalidExprs(), nil, []impl.Cell{}) {
		if s := impl.ExprText(list); s != "" {
			t.Errorf("the text of %d cells %.300v is %.300q", len(list), list, s)
		}
	}
	words, kinds, parts := candidateWords(), candidateKinds(), candidateParts()
	for _, word := range words {
		for _, kind := range kinds {
			checkText(t, leaf(kind, word))
			checkText(t, []impl.Cell{{Kind: impl.CellUnary, Word: "-", Many: 1}, {Kind: kind, Word: word}})
		}
	}
	r := rand.New(rand.NewSource(77))
	printed, refused := 0, 0
	for _, list := range validExprs() {
		at, c := r.Intn(len(list)), impl.Cell{}
		switch c = list[at]; r.Intn(3) {
		case 0:
			c.Kind = kinds[r.Intn(len(kinds))]
		case 1:
			c.Word = words[r.Intn(len(words))]
		case 2:
			c.Many = parts[r.Intn(len(parts))]
		}
		for _, changed := range [][]impl.Cell{slices.Concat(list[:at], []impl.Cell{c}, list[at+1:]), slices.Concat(list[:at], []impl.Cell{c}, list[at:]), slices.Concat(list[:at], list[at+1:]), list[:at], list[at:]} {
			checkText(t, changed)
			if expectedSpans(changed) == nil {
				refused++
			} else {
				printed++
			}
		}
		// What stands behind an expression makes it none, whatever it is.
		for _, more := range [][]impl.Cell{{c}, {list[len(list)-1]}, {{}}, list} {
			if s := impl.ExprText(slices.Concat(list, more)); s != "" {
				t.Errorf("%.300v with more behind it has the text %.300q", list, s)
			}
		}
	}
	if printed < 500 || refused < 500 {
		t.Errorf("%d changed expressions are printed and %d refused", printed, refused)
	}
}

// What stands in the memory behind the end of a list is not printed, and not changed.
func TestCellsBehindTheEndAreNotPrinted(t *testing.T) {
	for _, list := range slices.Concat(ordinaryExprs(), edgeExprs()) {
		room := slices.Concat(list, list)
		checkText(t, room[:len(list)])
		checkText(t, room[:len(list)-1])
		if !slices.Equal(room, slices.Concat(list, list)) {
			t.Errorf("the cells behind %v were changed", list)
		}
	}
}

// Promise 1: read expressions can be printed.
func TestReadExpressionsCanBePrinted(t *testing.T) {
	r := rand.New(rand.NewSource(71))
	for _, list := range slices.Concat(validExprs(), limitExprs()) {
		for _, s := range spacings(randomWords(r, list)) {
			read, ok := impl.ReadExpr(s)
			if !ok {
				// With more parentheses a deep expression may be nested too deep.
				checkFormat(t, s, expectedText(expectedExpr(s)))
				continue
			}
			printed := impl.ExprText(read)
			for _, around := range []string{printed, "(" + printed + ")", " ( " + printed + " ) ", "((" + printed + "))", " " + printed, printed + "   ", "  " + printed + " "} {
				if back, ok := impl.ReadExpr(around); !ok || !slices.Equal(back, read) {
					t.Errorf("%.300q is read as %.300s, %v, not as %.300s", around, shape(back), ok, shape(read))
				}
			}
			checkFormat(t, s, printed)
		}
	}
}

// Promise 1, for texts with as many spaces as fit.
func TestPrintedTextsBetweenManySpaces(t *testing.T) {
	for _, list := range append(slices.Concat(longest(), edgeExprs()), leaf(impl.CellName, "a"), tree(impl.CellUnary, "!", bushy("<", 29))) {
		s := impl.ExprText(list)
		spaces := strings.Repeat(" ", impl.MaxText-len(s))
		for _, text := range []string{spaces + s, s + spaces, spaces[:len(spaces)/2] + s + spaces[len(spaces)/2:]} {
			checkReading(t, text, list)
			checkFormat(t, text, s)
			checkFormat(t, text+" ", "")
			checkFormat(t, " "+text, "")
		}
	}
}

// Promise 2: printed expressions can be read.
func TestPrintedExpressionsCanBeRead(t *testing.T) {
	for _, list := range slices.Concat(validExprs(), limitExprs(), smallExprs(6, mixedCells())) {
		checkText(t, list)
	}
}

// Promise 35: sound texts can be read, also between brackets, if there is room.
func TestPrintedTextsBetweenBrackets(t *testing.T) {
	roomy, full := 0, 0
	for _, list := range slices.Concat(validExprs(), limitExprs(), smallExprs(4, mixedCells())) {
		s := impl.ExprText(list)
		room := len(list) < impl.MaxCells && expectedSpans(list)[0].depth < impl.MaxDepth
		back, ok := impl.ReadExpr("[" + s + "]")
		if !impl.ExprSound(s) || ok != room || impl.ExprSound("["+s+"]") != room {
			t.Errorf("%.300q is %v, and between brackets %v", s, impl.ExprSound(s), ok)
		}
		if !room {
			full++
			continue
		}
		roomy++
		if want := tree(impl.CellList, "", list); !slices.Equal(back, want) || impl.ExprText(back) != "["+s+"]" {
			t.Errorf("[%.300s] is read as %.300s", s, shape(back))
		}
	}
	if roomy < 500 || full < 20 {
		t.Errorf("there is room %d times and none %d times", roomy, full)
	}
}

// Promises 35 and 36, for every short list of words: what is sound is formatted, formatting again changes nothing, and the expression is the same.
func TestFormattedExpressionsStay(t *testing.T) {
	alphabets := []struct {
		most  int
		words string
	}{
		{3, `a a.b true 1 2.50 1. "x" "\q" """ ( ) [ ] , ? : ! - * + < == && ||`},
		{4, "a 1.50 f ( ) [ ] , ? : ! - < &&"},
		{6, "a - ! < ( )"},
		{6, "a ? : ( )"},
		{7, "a < - && *"},
	}
	accepted := 0
	for _, alphabet := range alphabets {
		words := strings.Split(alphabet.words, " ")
		var grow func(list []string)
		grow = func(list []string) {
			s := strings.Join(list, " ")
			want := expectedText(expectedExpr(s))
			checkFormat(t, s, want)
			if impl.ExprSound(s) != (want != "") {
				t.Errorf("ExprSound(%q) is %v", s, impl.ExprSound(s))
			}
			if want != "" {
				accepted++
				checkReading(t, want, expectedExpr(s))
			}
			if len(list) == alphabet.most {
				return
			}
			for _, word := range words {
				grow(append(slices.Clip(list), word))
			}
		}
		grow(nil)
	}
	if accepted < 1000 {
		t.Errorf("only %d texts are accepted", accepted)
	}
}

func TestRefusedTextsAreNotFormatted(t *testing.T) {
	for _, s := range []string{
		"", " ", "   ", "a +", "+ a", "a b", "(", ")", "()", "(a", "a)", "[a", "a]", "[a,]", "[,a]", "f(", "f(a", "f(a,)", "a ? b", "a : b", "a ? b :", "!", "-", "a !", "a < b < c", "a == b != c", "1.", "1000000001", "0.0000001",
		"a.", "A", "a\n", "\na", "a\tb", "\xc3\xa4", "a\x00", "a # b", "a = b", `"`, `"\q"`, `"a" "b"`, "true()", "a.b()",
		"[1, 2, 3, 4, 5, 6, 7, 8, 9]", parens(41, "a"), strings.Repeat("-", 12) + "a", `"` + strings.Repeat("x", 61) + `"`, "1" + strings.Repeat(" + 1", 12), parens(9998, "a"), strings.Repeat("(", impl.MaxText), "a" + strings.Repeat(" ", impl.MaxText),
	} {
		checkFormat(t, s, "")
	}
	for _, s := range slices.Concat(forbiddenBytes(), invalidTexts(), refusedCodes(), badCodes()) {
		checkFormat(t, s, "")
	}
	for _, s := range slices.Concat(goodCodes(), fullCodes(), allBytes(), []string{parens(40, "a"), strings.Repeat("-", 11) + "a"}) {
		checkFormat(t, s, expectedText(expectedExpr(s)))
	}
}

// Promise 90: parentheses tell the strength.
func TestSumsTellTheStrength(t *testing.T) {
	around := func(list []impl.Cell, needed string) string {
		s := impl.ExprText(list)
		kind := list[0].Kind
		if kind == impl.CellChoice || kind == impl.CellBinary && slices.Contains(strings.Fields(needed), list[0].Word) {
			return "(" + s + ")"
		}
		return s
	}
	exprs := smallExprs(4, mixedCells())
	for _, s := range samples() {
		exprs = append(exprs, s.list)
	}
	exprs = append(exprs, randomExprs()[:100]...)
	sums := 0
	for _, sign := range []string{"+", "-"} {
		for _, a := range exprs {
			for _, b := range exprs {
				sum := tree(impl.CellBinary, sign, a, b)
				want := around(a, "|| && == != < <= > >=") + " " + sign + " " + around(b, "|| && == != < <= > >= + -")
				if expectedSpans(sum) == nil {
					want = ""
				} else {
					sums++
				}
				got := impl.ExprText(sum)
				if got != want {
					t.Errorf("the text of %.300s is %.300q and not %.300q", shape(sum), got, want)
				}
				if back, ok := impl.ReadExpr(got); ok != (want != "") || ok && !slices.Equal(back, sum) {
					t.Errorf("%.300q is read as %.300s", got, shape(back))
				}
			}
		}
	}
	if sums < 10000 {
		t.Errorf("there are only %d sums", sums)
	}
}
