package tests

import (
	"math/rand"
	"slices"
	"strings"
	"testing"

	"loop.example/configformatter/impl"
)

// checkShapes compares the shapes of expressions that texts stand for, also with other spaces; a text with the shape "" stands for none.
func checkShapes(t *testing.T, cases [][2]string) {
	t.Helper()
	for _, c := range cases {
		for _, s := range append(spacings(wordsOf(c[0])), c[0]) {
			list, ok := impl.ReadExpr(s)
			if got := shape(list); got != c[1] || ok != (c[1] != "") {
				t.Errorf("ReadExpr(%q) is %s, %v, not %s", s, got, ok, c[1])
			}
			// The model of the other tests is looked at here, too.
			checkReading(t, s, expectedExpr(s))
		}
	}
}

// checkRefused looks that texts stand for no expression.
func checkRefused(t *testing.T, texts ...string) {
	t.Helper()
	for _, s := range texts {
		checkReading(t, s, nil)
	}
}

func TestKindsOfExpressionsAreRead(t *testing.T) {
	checkShapes(t, [][2]string{
		{"1", "1"}, {"0", "0"}, {"1000000000", "1000000000"}, {"0.000001", "0.000001"},
		{`""`, "''"}, {`"x y"`, "'x y'"}, {`"1"`, "'1'"}, {`"true"`, "'true'"}, {`"a ? b : c"`, "'a ? b : c'"},
		{"true", "TRUE"}, {"false", "FALSE"}, {"a", "a"}, {"a.b.c", "a.b.c"}, {"truth", "truth"}, {"x_1", "x_1"},
		{"[]", "[]"}, {"[1]", "[1]"}, {"[1, a, [true]]", "[1 a [TRUE]]"},
		{"f()", "f()"}, {"f(1)", "f(1)"}, {"f(1, g(a), \"x\")", "f(1 g(a) 'x')"},
		{"!a", "{! a}"}, {"-a", "{- a}"}, {"-1", "{- 1}"},
		{"a || b", "{|| a b}"}, {"a && b", "{&& a b}"}, {"a == b", "{== a b}"}, {"a != b", "{!= a b}"}, {"a < b", "{< a b}"}, {"a <= b", "{<= a b}"}, {"a > b", "{> a b}"}, {"a >= b", "{>= a b}"},
		{"a + b", "{+ a b}"}, {"a - b", "{- a b}"}, {"a * b", "{* a b}"}, {"a / b", "{/ a b}"}, {"a % b", "{% a b}"},
		{"a ? b : c", "{? a b c}"}, {"(a)", "a"}, {"((((1))))", "1"}, {"(a.b)", "a.b"}, {"(-a)", "{- a}"}, {"([])", "[]"}, {"(f())", "f()"}, {"(a ? b : c)", "{? a b c}"},
		{"1.50 + a * 2", "{+ 1.5 {* a 2}}"}, {"f([], true)", "f([] TRUE)"}, {"a-(b-c)", "{- a {- b c}}"}, {"!!x && true", "{&& {! {! x}} TRUE}"},
		{"[a ? b : c, d || e, !f]", "[{? a b c} {|| d e} {! f}]"}, {"f(a + 1, [2] + [3])(", ""}, {"f(a + 1, [2] + [3])", "f({+ a 1} {+ [2] [3]})"},
		{`length("a,b)]") > 3 ? upper(name.first) : "none"`, "{? {> length('a,b)]') 3} upper(name.first) 'none'}"},
	})
}

// Expressions of all kinds inside each other are read back, however they are written.
func TestWrittenExpressionsAreRead(t *testing.T) {
	r := rand.New(rand.NewSource(6))
	for _, list := range validExprs() {
		for _, words := range [][]string{plainWords(list), fullWords(list), randomWords(r, list)} {
			for _, s := range spacings(words) {
				checkReading(t, s, list)
			}
		}
	}
}

// Every short list of words is read as the model reads it.
func TestShortListsOfWords(t *testing.T) {
	alphabets := []struct {
		most  int
		words string
	}{
		{3, `a a.b true false 1 2.50 1. "x" "\q" "\"" ( ) [ ] , ? : ! - * / % + < <= > >= == != && ||`},
		{5, "a 1 true f ( ) [ ] , ? : ! - < &&"},
		{6, "a - ! * < == ( )"},
		{7, "a ? : ( )"},
		{7, "f ( ) [ ] ,"},
		{8, "a < - &&"},
	}
	accepted := 0
	for _, alphabet := range alphabets {
		words := strings.Split(alphabet.words, " ")
		var grow func(list []string)
		grow = func(list []string) {
			s := strings.Join(list, " ")
			want := expectedExpr(s)
			if want != nil {
				accepted++
			}
			checkReading(t, s, want)
			if len(list) == alphabet.most {
				return
			}
			for _, word := range words {
				grow(append(slices.Clip(list), word))
			}
		}
		grow(nil)
	}
	if accepted < 1000 {
		t.Errorf("only %d texts are accepted", accepted)
	}
}

// With a word that is left out, put in, doubled or exchanged a text is read as the model reads it.
func TestChangedTexts(t *testing.T) {
	r := rand.New(rand.NewSource(66))
	others := append(singleTokens(), "=", "&", "#", ".", "A", "{", "true", "f", "(", ")", "?", ":", ",")
	accepted, refused := 0, 0
	for _, list := range slices.Concat(ordinaryExprs(), randomExprs()) {
		words := randomWords(r, list)
		at, other := r.Intn(len(words)), r.Intn(len(words))
		word := others[r.Intn(len(others))]
		exchanged := slices.Clone(words)
		exchanged[at], exchanged[other] = exchanged[other], exchanged[at]
		for _, changed := range [][]string{
			slices.Concat(words[:at], words[at+1:]), slices.Concat(words[:at], []string{word}, words[at+1:]),
			slices.Concat(words[:at], []string{word}, words[at:]), slices.Concat(words[:at], words[at:at+1], words[at:]), exchanged, words[:at], words[at:],
		} {
			s := strings.Join(changed, " ")
			want := expectedExpr(s)
			checkReading(t, s, want)
			if want == nil {
				refused++
			} else {
				accepted++
			}
		}
	}
	if accepted < 500 || refused < 500 {
		t.Errorf("%d texts are accepted and %d refused", accepted, refused)
	}
}

// Each pair of strengths, in both orders: the stronger sign joins first, equal ones are taken from the left, and two comparisons are refused.
func TestStrengths(t *testing.T) {
	for left, lefts := range signRanks {
		for right, rights := range signRanks {
			for _, one := range lefts {
				for _, two := range rights {
					first, second := "{"+two+" {"+one+" a b} c}", "{"+one+" a {"+two+" b c}}"
					want := first
					if right > left {
						want = second
					} else if right == left && left == compareRank {
						want = ""
					}
					checkShapes(t, [][2]string{
						{"a " + one + " b " + two + " c", want},
						{"(a " + one + " b) " + two + " c", first},
						{"a " + one + " (b " + two + " c)", second},
						{"(a " + one + " b " + two + " c)", want},
						{"[a " + one + " b " + two + " c]", strings.TrimSuffix("["+want+"]", "[]")},
					})
				}
			}
		}
	}
	checkShapes(t, [][2]string{
		{"a || b && c == d + e * !f", "{|| a {&& b {== c {+ d {* e {! f}}}}}}"},
		{"!a * b + c == d && e || f", "{|| {&& {== {+ {* {! a} b} c} d} e} f}"},
		{"a * b + c * d < e - f / g && h || i && j", "{|| {&& {< {+ {* a b} {* c d}} {- e {/ f g}}} h} {&& i j}}"},
		{"a + b * c - d % e / f", "{- {+ a {* b c}} {/ {% d e} f}}"},
		{"a || b && c || d && e", "{|| {|| a {&& b c}} {&& d e}}"},
		{"(a || b) && (c || d)", "{&& {|| a b} {|| c d}}"},
		{"(a + b) * (c - d)", "{* {+ a b} {- c d}}"},
		{"a * (b + c) * d", "{* {* a {+ b c}} d}"},
		{"(a && b == c) + d", "{+ {&& a {== b c}} d}"},
	})
}

func TestEqualStrengthsAreTakenFromTheLeft(t *testing.T) {
	checkShapes(t, [][2]string{
		{"a - b - c - d", "{- {- {- a b} c} d}"}, {"a - (b - c) - d", "{- {- a {- b c}} d}"}, {"a - (b - (c - d))", "{- a {- b {- c d}}}"}, {"a - (b - c - d)", "{- a {- {- b c} d}}"},
		{"a + b - c + d", "{+ {- {+ a b} c} d}"}, {"a * b / c % d", "{% {/ {* a b} c} d}"}, {"a / (b * c)", "{/ a {* b c}}"}, {"a % b * (c / d)", "{* {% a b} {/ c d}}"},
		{"a || b || c || d", "{|| {|| {|| a b} c} d}"}, {"a && b && c && d", "{&& {&& {&& a b} c} d}"}, {"a || (b || c)", "{|| a {|| b c}}"}, {"a && (b && c)", "{&& a {&& b c}}"},
	})
}

func TestChoicesAreRead(t *testing.T) {
	checkShapes(t, [][2]string{
		{"a ? b : c ? d : e", "{? a b {? c d e}}"}, {"a ? b : (c ? d : e)", "{? a b {? c d e}}"},
		{"a ? b ? c : d : e", "{? a {? b c d} e}"}, {"a ? (b ? c : d) : e", "{? a {? b c d} e}"},
		{"(a ? b : c) ? d : e", "{? {? a b c} d e}"}, {"((a ? b : c) ? d : e) ? f : g", "{? {? {? a b c} d e} f g}"},
		{"a ? b ? c : d : e ? f : g", "{? a {? b c d} {? e f g}}"}, {"a ? b ? c ? d : e : f : g", "{? a {? b {? c d e} f} g}"}, {"a ? b : c ? d : e ? f : g", "{? a b {? c d {? e f g}}}"},
		{"a || b ? c || d : e || f", "{? {|| a b} {|| c d} {|| e f}}"}, {"a == b ? c == d : e == f", "{? {== a b} {== c d} {== e f}}"}, {"!a ? -b : -c", "{? {! a} {- b} {- c}}"},
		{"a || (b ? c : d)", "{|| a {? b c d}}"}, {"a || b ? c : d", "{? {|| a b} c d}"}, {"(a ? b : c) || d", "{|| {? a b c} d}"}, {"a ? b : c || d", "{? a b {|| c d}}"}, {"!(a ? b : c)", "{! {? a b c}}"},
		{"[a ? b : c]", "[{? a b c}]"}, {"f(a ? b : c, d ? e : g)", "f({? a b c} {? d e g})"}, {"true?[]:f()", "{? TRUE [] f()}"},
		{"a ? b", ""}, {"a ?", ""}, {"?", ""}, {":", ""}, {"? b : c", ""}, {"a ? : c", ""}, {"a ? b :", ""}, {"a : b", ""}, {"a ? b ? c : d", ""}, {"a ? b : c : d", ""}, {"a ? b : c ? d", ""},
		{"a : b ? c", ""}, {"a ? (b : c)", ""}, {"(a ? b) : c", ""}, {"a ? [b : c]", ""}, {"a ? b , c : d", ""}, {"a ?? b : c", ""}, {"a ? b :: c", ""}, {"a || ? b : c", ""}, {"a || b ? c : d || ", ""},
	})
}

func TestComparisonsStandAlone(t *testing.T) {
	for _, one := range signRanks[compareRank] {
		for _, two := range signRanks[compareRank] {
			checkShapes(t, [][2]string{
				{"(a " + one + " b) " + two + " (c " + one + " d)", "{" + two + " {" + one + " a b} {" + one + " c d}}"},
				{"a " + one + " b && c " + two + " d", "{&& {" + one + " a b} {" + two + " c d}}"},
				{"a " + one + " b || c " + two + " d", "{|| {" + one + " a b} {" + two + " c d}}"},
				{"a " + one + " b ? c " + two + " d : e", "{? {" + one + " a b} {" + two + " c d} e}"},
				{"f(a " + one + " b) " + two + " c", "{" + two + " f({" + one + " a b}) c}"},
				{"[a " + one + " b, c " + two + " d]", "[{" + one + " a b} {" + two + " c d}]"},
				{"a " + one + " b + c " + two + " d", ""},
				{"a + b " + one + " c " + two + " d", ""},
				{"a " + one + " b " + two + " c + d", ""},
				{"a " + one + " !b " + two + " c", ""},
				{"x && a " + one + " b " + two + " c", ""},
				{"x || a " + one + " b " + two + " c", ""},
				{"a " + one + " b " + two + " c && x", ""},
				{"a " + one + " b " + two + " c ? x : y", ""},
				{"x ? a " + one + " b " + two + " c : y", ""},
				{"x ? y : a " + one + " b " + two + " c", ""},
				{"-(a " + one + " b " + two + " c)", ""},
				{"f(x, a " + one + " b " + two + " c)", ""},
				{"(a " + one + " b) " + two + " c " + one + " d", ""},
				{"a " + one + " (b) " + two + " (c)", ""},
			})
		}
	}
}

func TestUnarySignsAreRead(t *testing.T) {
	checkShapes(t, [][2]string{
		{"- - 1", "{- {- 1}}"}, {"--1", "{- {- 1}}"}, {"!-1", "{! {- 1}}"}, {"-!a", "{- {! a}}"}, {"!!!a", "{! {! {! a}}}"}, {"-1.50", "{- 1.5}"}, {"-0", "{- 0}"},
		{"!f(a)", "{! f(a)}"}, {"-f()", "{- f()}"}, {"-[1]", "{- [1]}"}, {"![]", "{! []}"}, {"-(a)", "{- a}"}, {"-(a + b)", "{- {+ a b}}"}, {"!(a && b)", "{! {&& a b}}"}, {"-(-(1))", "{- {- 1}}"}, {`-"x"`, "{- 'x'}"}, {"!true", "{! TRUE}"}, {"!a.b", "{! a.b}"},
		{"-a + b", "{+ {- a} b}"}, {"-a * b", "{* {- a} b}"}, {"-(a * b)", "{- {* a b}}"}, {"!a == b", "{== {! a} b}"}, {"!a && !b || !c", "{|| {&& {! a} {! b}} {! c}}"},
		{"a - -b", "{- a {- b}}"}, {"a--b", "{- a {- b}}"}, {"a---b", "{- a {- {- b}}}"}, {"a * -b", "{* a {- b}}"}, {"a + -b * c", "{+ a {* {- b} c}}"}, {"a == !b", "{== a {! b}}"}, {"a != !b", "{!= a {! b}}"}, {"a < -b < c", ""}, {"a || !b", "{|| a {! b}}"},
		{"[-1, !a]", "[{- 1} {! a}]"}, {"f(-1)", "f({- 1})"}, {"a ? -b : !c", "{? a {- b} {! c}}"}, {"-a ? b : c", "{? {- a} b c}"},
		{"-", ""}, {"!", ""}, {"--", ""}, {"a -", ""}, {"a - !", ""}, {"a !", ""}, {"a ! b", ""}, {"a !! b", ""}, {"+1", ""}, {"*a", ""}, {"a + + b", ""}, {"a * / b", ""}, {"-(", ""}, {"!)", ""}, {"-()", ""}, {"- + a", ""}, {"!= a", ""}, {"!, a", ""},
	})
}

func TestNumbersAreRead(t *testing.T) {
	checkShapes(t, [][2]string{
		{"1.50", "1.5"}, {"007", "7"}, {"00", "0"}, {"0.0", "0"}, {"1.000000", "1"}, {"0000000001", "1"}, {"0000000001.500000", "1.5"}, {"1000000000.000000", "1000000000"}, {"499999999.50", "499999999.5"}, {"0.000010", "0.00001"},
		{"1000000001", ""}, {"9999999999", ""}, {"00000000001", ""}, {"10000000000", ""}, {"0.0000000", ""}, {"0.0000001", ""}, {"500000000.5", ""}, {"1000000000.000001", ""}, {"99999999999999999999", ""},
		{"1.", ""}, {"1..5", ""}, {"1.2.3", ""}, {"1.5.", ""}, {".5", ""}, {"1e3", ""}, {"1_0", ""}, {"1,5", ""}, {"1 5", ""}, {"1/3", "{/ 1 3}"}, {"-1/3", "{/ {- 1} 3}"},
		{"1.50 + 1.5", "{+ 1.5 1.5}"}, {"[01, 2.0]", "[1 2]"}, {"f(1.)", ""}, {"[1, 1000000001]", ""}, {"-1000000001", ""},
	})
	for _, s := range decimals() {
		word, ok := expectedNumber(s)
		if !ok {
			checkRefused(t, s, "-"+s, "["+s+"]", "a + "+s)
			continue
		}
		number := leaf(impl.CellNumber, word)
		checkReading(t, s, number)
		checkReading(t, "-"+s, tree(impl.CellUnary, "-", number))
		checkReading(t, s+"/"+s, tree(impl.CellBinary, "/", number, number))
	}
}

func TestTextsAreRead(t *testing.T) {
	checkShapes(t, [][2]string{
		{`"\""`, `'"'`}, {`"\\"`, `'\'`}, {`"\n"`, "'\n'"}, {`"\\n"`, `'\n'`}, {`"a\"b\\c\nd"`, "'a\"b\\c\nd'"}, {`"\\\""`, `'\"'`}, {`"a" + "\\"`, `{+ 'a' '\'}`}, {`["\"", "]"]`, `['"' ']']`}, {`f("\\")`, `f('\')`},
		{`"\a"`, ""}, {`"\ "`, ""}, {`"\N"`, ""}, {`"\t"`, ""}, {`["\q"]`, ""}, {`"a" + "\'"`, ""}, {`"`, ""}, {`"\"`, ""}, {`"a`, ""}, {`"a""b"`, ""}, {`"a" "b"`, ""}, {`"a"b`, ""}, {`a"b"`, ""},
		{`"` + strings.Repeat("x", 60) + `"`, "'" + strings.Repeat("x", 60) + "'"}, {`"` + strings.Repeat("x", 61) + `"`, ""},
		{`"` + strings.Repeat(`\n`, 60) + `"`, "'" + strings.Repeat("\n", 60) + "'"}, {`"` + strings.Repeat(`\\`, 61) + `"`, ""},
	})
	for _, s := range quotableTexts() {
		quoted := expectedQuoted(s)
		if len(s) > 60 {
			checkRefused(t, quoted, "["+quoted+"]")
			continue
		}
		checkReading(t, quoted, leaf(impl.CellText, s))
		checkReading(t, "f("+quoted+","+quoted+")", tree(impl.CellCall, "f", leaf(impl.CellText, s), leaf(impl.CellText, s)))
	}
}

func TestNamesAreRead(t *testing.T) {
	part := strings.Repeat("n", impl.MaxName)
	longest := strings.Repeat(part+".", 4) + part[:8]
	checkShapes(t, [][2]string{
		{"a.b", "a.b"}, {"true.a", "true.a"}, {"a.true", "a.true"}, {"truth", "truth"}, {"truefalse", "truefalse"}, {"a1_.b2_", "a1_.b2_"}, {part, part}, {part + "." + part, part + "." + part}, {longest, longest},
		{"a.", ""}, {"a..b", ""}, {"a.1", ""}, {"a._b", ""}, {".a", ""}, {"A", ""}, {"aB", ""}, {"_a", ""}, {"1a", ""}, {"a b", ""}, {"a .b", ""}, {part + "n", ""}, {"a." + part + "n", ""}, {longest + "n", ""}, {"true.", ""},
		{"f()", "f()"}, {"f (1)", "f(1)"}, {"truth(1)", "truth(1)"}, {part + "()", part + "()"}, {"f(f(f()))", "f(f(f()))"}, {"f(a.b)", "f(a.b)"}, {"f(true)", "f(TRUE)"},
		{"true(1)", ""}, {"false()", ""}, {"true()", ""}, {"a.b(1)", ""}, {"a.b()", ""}, {"true.a()", ""}, {"a.()", ""}, {part + "n()", ""}, {longest + "(1)", ""},
		{"a(b)(c)", ""}, {"f()()", ""}, {"(f)(1)", ""}, {"1(2)", ""}, {`"f"(1)`, ""}, {"[1](2)", ""}, {"f[1]", ""}, {"[1][2]", ""}, {"f(1)[2]", ""}, {"f a", ""}, {"true false", ""}, {"a true", ""}, {"!(1)", "{! 1}"}, {"f!(1)", ""},
	})
}

func TestSeriesAreRead(t *testing.T) {
	for _, around := range [][3]string{{"[", "]", "["}, {"f(", ")", "f("}} {
		open, closing, begin := around[0], around[1], around[2]
		for n := range impl.MaxParts + 4 {
			want := ""
			if n <= impl.MaxParts {
				want = begin + strings.Join(slices.Repeat([]string{"a"}, n), " ") + closing
			}
			s := open + strings.Join(slices.Repeat([]string{"a"}, n), ", ") + closing
			checkShapes(t, [][2]string{
				{s, want},
				{s[:len(s)-1] + "," + closing, ""},
				{open + "," + s[len(open):], ""},
				{open + s + ", " + s + closing, strings.TrimSuffix(begin+want+" "+want+closing, begin+" "+closing)},
			})
		}
		checkShapes(t, [][2]string{
			{open + "a,, b" + closing, ""}, {open + "a b" + closing, ""}, {open + "a; b" + closing, ""}, {open + ",,", ""}, {open, ""}, {open + "a", ""}, {open + "a,", ""}, {open + "a, b", ""}, {open + "(a, b)" + closing, ""},
			{open + "a ? b : c, -d, (e)" + closing, begin + "{? a b c} {- d} e" + closing},
			{open + "1 + 2, [3], g(4)" + closing, begin + "{+ 1 2} [3] g(4)" + closing},
		})
	}
	checkShapes(t, [][2]string{{"()", ""}, {"(,)", ""}, {"(a,)", ""}, {"(a, b)", ""}, {"a, b", ""}, {",", ""}, {"a,", ""}, {"f(])", ""}, {"[)", ""}, {"f(a]", ""}, {"[a)", ""}, {"(a]", ""}, {"[(a])", ""}, {"f([)]", ""}, {"[]]", ""}, {"[[]", ""}, {"f())", ""}, {"(()", ""}})
}

// Texts of too many or too deep cells are refused, and those at the limits are not.
func TestLimitsOfReadExpressions(t *testing.T) {
	for n := impl.MaxCells - 3; n <= impl.MaxCells+3; n++ {
		checkWritten(t, wide(n), n <= impl.MaxCells)
	}
	for _, step := range chainSteps() {
		for depth := impl.MaxDepth - 2; depth <= impl.MaxDepth+3; depth++ {
			checkWritten(t, chain(depth, step), depth <= impl.MaxDepth)
		}
	}
	for _, list := range validExprs() {
		deep := expectedSpans(list)[0].depth
		checkWritten(t, tree(impl.CellUnary, "!", list), len(list) < impl.MaxCells && deep < impl.MaxDepth)
		checkWritten(t, tree(impl.CellList, "", list), len(list) < impl.MaxCells && deep < impl.MaxDepth)
	}
	sum := func(n int) string { return "1" + strings.Repeat(" + 1", n-1) }
	checkReading(t, sum(12), expectedExpr(sum(12)))
	checkRefused(t, sum(13), sum(30), sum(31))
}

// checkWritten looks whether an expression that is written is read back or refused.
func checkWritten(t *testing.T, list []impl.Cell, fits bool) {
	t.Helper()
	want := list
	if !fits {
		want = nil
	}
	checkReading(t, strings.Join(plainWords(list), " "), want)
}

// layer is something that is nested around an expression.
type layer struct {
	before, behind string
	step           func(inner []impl.Cell) []impl.Cell
}

// layers returns all that is nested, but for parentheses alone; they can stand around everything in parentheses.
func layers() []layer {
	a := leaf(impl.CellName, "a")
	return []layer{
		{"-", "", func(e []impl.Cell) []impl.Cell { return tree(impl.CellUnary, "-", e) }},
		{"!", "", func(e []impl.Cell) []impl.Cell { return tree(impl.CellUnary, "!", e) }},
		{"[", "]", func(e []impl.Cell) []impl.Cell { return tree(impl.CellList, "", e) }},
		{"[a, ", ", a]", func(e []impl.Cell) []impl.Cell { return tree(impl.CellList, "", a, e, a) }},
		{"f(", ")", func(e []impl.Cell) []impl.Cell { return tree(impl.CellCall, "f", e) }},
		{"f(a, ", ")", func(e []impl.Cell) []impl.Cell { return tree(impl.CellCall, "f", a, e) }},
		{"", " ? a : a", func(e []impl.Cell) []impl.Cell { return tree(impl.CellChoice, "", e, a, a) }},
		{"a ? ", " : a", func(e []impl.Cell) []impl.Cell { return tree(impl.CellChoice, "", a, e, a) }},
		{"a ? a : ", "", func(e []impl.Cell) []impl.Cell { return tree(impl.CellChoice, "", a, a, e) }},
	}
}

// parens writes parentheses around a text.
func parens(n int, s string) string {
	return strings.Repeat("(", n) + s + strings.Repeat(")", n)
}

func TestNestedParentheses(t *testing.T) {
	for _, c := range [][2]string{{"a", "a"}, {"1.50", "1.5"}, {`"x"`, "'x'"}, {"true", "TRUE"}, {"a + b * c", "{+ a {* b c}}"}, {"a < b", "{< a b}"}} {
		for n := range 44 {
			want := c[1]
			if n > 40 {
				want = ""
			}
			checkShapes(t, [][2]string{{parens(n, c[0]), want}})
		}
	}
	// What stands side by side is not nested, and binary signs do not count.
	checkShapes(t, [][2]string{
		{parens(40, "a") + " + " + parens(40, "b"), "{+ a b}"}, {parens(40, "a") + " + " + parens(41, "b"), ""}, {parens(41, "a") + " + " + parens(40, "b"), ""},
		{parens(20, parens(20, "a")+" * "+parens(20, "b")) + " < " + parens(40, "c"), "{< {* a b} c}"}, {parens(20, parens(20, "a")+" * "+parens(21, "b")), ""},
		{"[" + parens(39, "a") + ", " + parens(39, "b") + "]", "[a b]"}, {"[" + parens(39, "a") + ", " + parens(40, "b") + "]", ""},
	})
	checkRefused(t, strings.Repeat("(", 40)+"a"+strings.Repeat(")", 39), strings.Repeat("(", 39)+"a"+strings.Repeat(")", 40), parens(40, ""), parens(40, "a b"), parens(40, "+"))
}

// Parentheses, brackets, calls, choices (with all their parts) and unary signs count alike, wherever they stand.
func TestNestingIsMixed(t *testing.T) {
	a := leaf(impl.CellName, "a")
	for _, l := range layers() {
		want := l.step(a)
		checkReading(t, parens(39, l.before+"a"+l.behind), want)
		checkRefused(t, parens(40, l.before+"a"+l.behind))
		checkReading(t, l.before+parens(39, "a")+l.behind, want)
		checkRefused(t, l.before+parens(40, "a")+l.behind)
		checkReading(t, parens(20, l.before+parens(19, "a")+l.behind), want)
		checkRefused(t, parens(20, l.before+parens(20, "a")+l.behind), parens(21, l.before+parens(19, "a")+l.behind))
		for _, m := range layers() {
			inner := l.before + "(" + m.before + parens(18, "a") + m.behind + ")" + l.behind
			checkReading(t, parens(19, inner), l.step(m.step(a)))
			checkRefused(t, parens(20, inner))
		}
		checkSteps(t, l)
	}
	for _, empty := range []string{"[]", "f()"} {
		if !impl.ExprSound(parens(39, empty)) || impl.ExprSound(parens(40, empty)) {
			t.Errorf("%s in 39 and 40 parentheses is %v and %v", empty, impl.ExprSound(parens(39, empty)), impl.ExprSound(parens(40, empty)))
		}
	}
}

// checkSteps nests one kind alone, as deep as expressions can be, with parentheses around them up to the limit.
func checkSteps(t *testing.T, l layer) {
	t.Helper()
	list, s := leaf(impl.CellName, "a"), "a"
	for n := 1; n <= 41; n++ {
		list = l.step(list)
		if l.before == "" && n > 1 {
			// A choice is no condition without parentheses, and these count, too.
			s = "(" + s + ")"
		}
		s = l.before + s + l.behind
		nesting := n
		if l.before == "" {
			nesting = 2*n - 1
		}
		if n >= impl.MaxDepth || len(list) > impl.MaxCells {
			checkRefused(t, s)
			continue
		}
		checkReading(t, s, list)
		checkReading(t, parens(40-nesting, s), list)
		checkRefused(t, parens(41-nesting, s))
	}
}

// A random mixture of layers is read exactly if it is not nested too deep, and the expression is valid.
func TestRandomNesting(t *testing.T) {
	r := rand.New(rand.NewSource(40))
	accepted, refused := 0, 0
	for range 3000 {
		list, s, nesting := leaf(impl.CellName, "a"), "a", 0
		steps := r.Intn(8)
		for range steps {
			l, n := layers()[r.Intn(len(layers()))], 1+r.Intn(9)
			list, s = l.step(list), l.before+parens(n, s)+l.behind
			nesting += n + 1
		}
		n := 42 - nesting - r.Intn(4)
		if n > 0 {
			s, nesting = parens(n, s), nesting+n
		}
		if nesting > 40 {
			refused++
			checkRefused(t, s)
		} else {
			accepted++
			checkReading(t, s, list)
		}
	}
	if accepted < 500 || refused < 500 {
		t.Errorf("%d texts are accepted and %d refused", accepted, refused)
	}
}

// Long texts are refused like any other, and one of MaxText bytes is not too long.
func TestLongTextsAreRead(t *testing.T) {
	for _, unit := range []string{"(", ")", "[", "]", "-", "!", "f(", "a?", "a?a:", "[a,", "f(a,", "a+", "a-", "a||", "a<", "a,", "(-", "([", "a", "1", ",", "?", ":", `""`, "()", "[]", "[],", "f()", "a ", "(a)+", "(a)?", "-(a+", "(a?a:"} {
		for _, n := range []int{42, 1000, impl.MaxText/len(unit) - 1, impl.MaxText / len(unit), impl.MaxText} {
			s := strings.Repeat(unit, n)
			checkRefused(t, s, s+"1", s+"1"+strings.Repeat(")", n), s+"1"+strings.Repeat("]", n))
		}
	}
	half := impl.MaxText/2 - 1
	checkRefused(t, parens(half, "1"), strings.Repeat("[", half)+strings.Repeat("]", half), strings.Repeat("(", half)+"1"+strings.Repeat(" ? 1 : 1)", half/9), "1"+strings.Repeat("+1", half), "["+strings.Repeat("1,", half-1)+"1]")
	for _, s := range []string{"a", "1 + 2", "f(a)", `"x"`} {
		full := s + strings.Repeat(" ", impl.MaxText-len(s))
		for _, text := range []string{full, full[len(s):] + s, strings.Repeat(" ", 100) + full[:impl.MaxText-100]} {
			checkReading(t, text, expectedExpr(s))
			checkRefused(t, text+" ", " "+text)
		}
	}
}

func TestTextsWithoutExpressions(t *testing.T) {
	checkRefused(t, "", " ", "     ", "\n", "a\n", "\na", "a +\nb", "[1,\n2]", "\"a\nb\"", "a\tb", "\xc3\xa4", "a\x00", "a # note", "a = b", "{", "}", "a;", "1 +", "+", "(1", "1)", "a < b < c", "a == b == c", "a & b", "a | b", "a === b", "~a", "a @ b", "a ^ b", "'a'")
	checkRefused(t, slices.Concat(refusedCodes(), badCodes(), signs())...)
	for _, s := range forbiddenBytes() {
		checkRefused(t, s, "a"+s, s+"a", "a "+s+" + b", "[a"+s+"]", `"`+s+`"`)
	}
	for _, s := range slices.Concat(goodCodes(), fullCodes(), allBytes()) {
		checkReading(t, s, expectedExpr(s))
	}
}

// Promise 35, for texts that are sound: also between brackets, if there is room.
func TestSoundTextsBetweenBrackets(t *testing.T) {
	roomy := 0
	for _, list := range validExprs() {
		s := strings.Join(plainWords(list), " ")
		room := len(list) < impl.MaxCells && expectedSpans(list)[0].depth < impl.MaxDepth
		if got := impl.ExprSound("[" + s + "]"); got != room {
			t.Errorf("ExprSound([%s]) is %v", s, got)
		}
		if room {
			roomy++
		}
	}
	if roomy == 0 {
		t.Error("there is never room")
	}
}

func TestReadExpressionsAreNew(t *testing.T) {
	for _, s := range []string{"a", "f(1, [2, \"x\"]) ? -a : b + c"} {
		first, _ := impl.ReadExpr(s)
		second, _ := impl.ReadExpr(s)
		want := slices.Clone(second)
		first[0] = impl.Cell{Kind: 10, Word: "changed", Many: 10}
		_ = append(first[:1], make([]impl.Cell, cap(first))...)
		_ = append(first, first[0])
		checkReading(t, s, want)
		if !slices.Equal(second, want) {
			t.Errorf("the second reading of %q became %v", s, second)
		}
	}
}
