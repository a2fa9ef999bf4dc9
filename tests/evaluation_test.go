package tests

import (
	"math/rand"
	"slices"
	"strings"
	"testing"

	"loop.example/configformatter/impl"
)

// checkTexts looks what the texts of values are, with the usual bindings; "" if an expression has none. All texts alternate with those of values.
func checkTexts(t *testing.T, texts ...string) {
	t.Helper()
	s := settingOf(usualBindings()...)
	for k := 0; k+1 < len(texts); k += 2 {
		list := written(texts[k])
		got, ok := impl.Evaluate(list, s.env)
		if text := impl.ValueText(got); text != texts[k+1] || ok != (texts[k+1] != "") || !ok && got != nil {
			t.Errorf("the value of %s is %q, %v and not %q", texts[k], text, ok, texts[k+1])
		}
		s.check(t, list)
	}
}

func TestSingleCellsAreEvaluated(t *testing.T) {
	checkTexts(t,
		"0", "0", "7", "7", "1.5", "1.5", "0.000001", "0.000001", "1000000000", "1000000000", `""`, `""`, `"a \"b\"\\\n"`, `"a \"b\"\\\n"`, "true", "true", "false", "false", "[]", "[]",
		"a", "2", "b", "-1/3", "s", `"ab"`, "e", `""`, "t", "true", "f", "false", "l", "[]", "m", `[2, "ab"]`, "n", "[[true], -5]",
		"srv.port", "8080", "srv.port.x", `"deep"`, "true.a", "7", "length", "1",
		"u", "", "srv", "", "port", "", "srv.por", "", "srv.port.y", "", "srv.port.x.y", "", "aa", "", "a.a", "", "fiv", "", "fives", "", "x", "", "false.a", "",
		"length()", "", "f()", "", "a()", "", "u()", "", "min()", "",
	)
}

func TestListsAndCallsAreEvaluated(t *testing.T) {
	checkTexts(t,
		"[1, 1 + 1, a + 1, b]", "[1, 2, 3, -1/3]", "[[a], [[s]], []]", `[[2], [["ab"]], []]`, "[l, m, n]", `[[], [2, "ab"], [[true], -5]]`, "[-1]", "[-1]", "[1 / 3]", "[1/3]", "[!t, 1 < 2]", "[false, true]",
		"[u]", "", "[1, u]", "", "[u, 1]", "", "[1, [2, 1 / 0], 3]", "", "[f()]", "", `[1 + "a"]`, "", "[1, -t]", "",
		"length([a, a])", "2", `length("a" + s)`, "3", "length(length)", "", "length(m)", "2", "min(a, b, five)", "-5", "max(1 / 2, 1 / 3)", "0.5", `upper(s + "c")`, `"ABC"`, `lower(upper(s))`, `"ab"`,
		"first(n)", "[true]", "first(first(n))", "true", "first([])", "", "reverse([1, a, s])", `["ab", 2, 1]`, "contains(m, 1 + 1)", "true", "contains(m, u)", "", "contains([b], -(1 / 3))", "true", `join([s, s], ", ")`, `"ab, ab"`,
		"f(1)", "", "s(1)", "", "abs(1)", "", "length(u)", "", "length(1)", "", "min(1, s)", "", "max(1, 1 / 0)", "", "first([1, u])", "", "length([1, 1 / 0])", "", "reverse(f())", "",
	)
}

func TestUnarySignsAreEvaluated(t *testing.T) {
	checkTexts(t,
		"!true", "false", "!false", "true", "!!t", "true", "!!!t", "false", "-1", "-1", "--1", "1", "-0", "0", "-zero", "0", "-b", "1/3", "-five", "5", "-0.5", "-0.5", "-1000000000", "-1000000000", "-0.000001", "-0.000001", "-(1 / 3)", "-1/3", "-(a + 1)", "-3",
		"!1", "", "!0", "", `!""`, "", `!"true"`, "", "![]", "", "![true]", "", "!u", "", "-true", "", "-f", "", `-"1"`, "", "-s", "", "-[]", "", "-[1]", "", "-u", "", "!-1", "", "-!t", "", "!(1 / 0)", "", "-f()", "",
	)
}

func TestBinarySignsAreEvaluated(t *testing.T) {
	checkTexts(t,
		"1 + 2 * 3", "7", "(1 + 2) * 3", "9", "1 - 2 - 3", "-4", "1 - (2 - 3)", "2", "8 / 4 / 2", "1", "1 / 3 + 1 / 6", "0.5", "0.1 + 0.2", "0.3", "1 / 3 * 3", "1", "a * b", "-2/3", "five - half", "-5.5", "0 / 5", "0", "0 / five", "0", "1 / five", "-0.2", "1 / b", "-3",
		"1 / 0", "", "0 / 0", "", "1 / zero", "", "1 / (1 - 1)", "", "1000000000 + 1", "", "1000000000 * 2", "", "-1000000000 - 1", "", "1 / 1000000", "0.000001", "1 / 1000000 / 2", "", "1 / 999999 / 2", "", "1 / 500001", "1/500001", "1 / 999999 + 1 / 999998", "",
		`"a" + "b"`, `"ab"`, `s + ""`, `"ab"`, `"" + e`, `""`, "[1] + [2]", "[1, 2]", "[] + []", "[]", "m + n", `[2, "ab", [true], -5]`, "[l] + l", "[[]]",
		`1 + "a"`, "", `"a" + 1`, "", "[1] + 2", "", "1 + [2]", "", `[] + ""`, "", "true + true", "", "t + 1", "", "u + 1", "", "1 + u", "",
		`"a" - "a"`, "", "[1] - [1]", "", `"a" * 2`, "", "[1] * 2", "", "m / 2", "", "m / m", "", "true - f", "", "t * t", "", "s % a", "", "l % l", "",
	)
}

func TestRestsAreEvaluated(t *testing.T) {
	checkTexts(t,
		"7 % 3", "1", "-7 % 3", "2", "-6 % 3", "0", "6 % 3", "0", "0 % 3", "0", "2 % 3", "2", "-1 % 3", "2", "-(7 % 3)", "-1", "five % 2", "1", "1000000000 % 999999999", "1", "-1000000000 % 999999999", "999999998", "-1 % 1000000000", "999999999", "1000000000 % 1000000000", "0", "7 % 1", "0", "-7 % 1", "0", "6 / 2 % 2", "1", "1.5 * 2 % 2", "1",
		"7 % 0", "", "0 % 0", "", "7 % zero", "", "7 % -3", "", "-7 % -3", "", "0 % five", "", "1.5 % 2", "", "7 % 1.5", "", "7 % half", "", "b % 2", "", "7 % (1 / 3)", "", "7 % (-1 / 3)", "", "0.5 % 0.5", "",
	)
}

func TestComparisonsAreEvaluated(t *testing.T) {
	checkTexts(t,
		"1 < 2", "true", "2 < 1", "false", "1 < 1", "false", "1 <= 1", "true", "1 <= 2", "true", "2 <= 1", "false", "1 > 2", "false", "2 > 1", "true", "1 > 1", "false", "1 >= 1", "true", "1 >= 2", "false", "2 >= 1", "true",
		"b < zero", "true", "-1 < -2", "false", "1 / 3 < 0.333333", "false", "0.333334 > 1 / 3", "true", "10 < 9", "false", "0.1 < 0.09", "false", "five >= -5", "true",
		`"a" < "b"`, "", `"a" <= "a"`, "", "[1] < [2]", "", "l >= l", "", "true > false", "", "t >= t", "", `1 < "2"`, "", `"1" < 2`, "", "1 < true", "", "[1] < 2", "", "u < 1", "", "1 > u", "", "1 / 0 < 1", "", "1 <= 1 / 0", "",
		"1 == 1", "true", "1 == 2", "false", "1 != 1", "false", "1 != 2", "true", "0.5 == 1 / 2", "true", "1 / 3 == 2 / 6", "true", "-0 == 0", "true", "b == -1 / 3", "true", "1.50 == 1.5", "true",
		`s == "ab"`, "true", `s == "aB"`, "false", `"" == e`, "true", `"a" != "a "`, "true", "t == true", "true", "t == f", "false", "t != f", "true",
		"[] == l", "true", "[a] == [2]", "true", "[1, 2] == [2, 1]", "false", "[1] == [1, 1]", "false", "[[1]] == [1]", "false", "[[], []] == [[[]]]", "false", "m != [2, s]", "false",
		`1 == "1"`, "false", `1 != "1"`, "true", `true == "true"`, "false", "true == 1", "false", "0 == false", "false", "[1] == 1", "false", `[] == ""`, "false", "[] == false", "false", "[] != 0", "true", `"[]" == []`, "false",
		"u == u", "", "u != 1", "", "1 == u", "", "1 / 0 == 1 / 0", "", "1 / 0 != 1", "", "[u] == []", "", "f() == f()", "",
	)
}

func TestTruthsAreEvaluated(t *testing.T) {
	checkTexts(t,
		"true && true", "true", "true && false", "false", "false && true", "false", "false && false", "false", "true || true", "true", "true || false", "true", "false || true", "true", "false || false", "false", "t && !f", "true",
		"false && u", "false", "true || u", "true", "f && 1", "false", "t || 1", "true", "false && 1 / 0", "false", "true || 1 / 0", "true", `false && "a"`, "false", "true || []", "true", "false && f()", "false", "true || -true", "true", "f && [u]", "false", "t || (u || u)", "true",
		"true && u", "", "false || u", "", "true && 1", "", "false || 0", "", "true && 1 / 0", "", "false || 1 / 0", "", `true && "true"`, "", "false || []", "", "t && [true]", "", "f || f()", "",
		"u && false", "", "u || true", "", "1 && false", "", "0 && true", "", "1 || true", "", `"false" && false`, "", `"true" || true`, "", "[] && false", "", "[] || true", "", "1 / 0 && false", "", "1 / 0 || true", "", "!u || true", "",
		"true && false && u", "false", "false && u && u", "false", "false || true || u", "true", "false && u || true", "true", "true || u && u", "true", "u && u || true", "", "!(false && u)", "true", "(true || u) == t", "true", "[false && u]", "[false]",
	)
}

func TestChoicesAreEvaluated(t *testing.T) {
	checkTexts(t,
		"true ? 1 : 2", "1", "false ? 1 : 2", "2", "1 < 2 ? s : m", `"ab"`, "1 > 2 ? s : m", `[2, "ab"]`, "t ? f : t", "false", "f ? [1] : []", "[]",
		"true ? 1 : u", "1", "false ? u : 2", "2", "true ? 1 : 1 / 0", "1", "false ? 1 / 0 : 2", "2", "t ? 1 : f()", "1", "f ? -s : 2", "2", "t ? t ? 1 : u : u", "1", "f ? u : f ? u : 3", "3", "f && u ? u : 4", "4", "a == 2 || u ? 5 : u", "5", "[t ? 1 : u, f ? u : 2]", "[1, 2]",
		"true ? u : 1", "", "false ? 1 : u", "", "t ? 1 / 0 : 1", "", "f ? 1 : 1 / 0", "", "t ? f() : 1", "",
		"1 ? 2 : 3", "", "0 ? 2 : 3", "", `"true" ? 2 : 3`, "", `"" ? 2 : 2`, "", "[] ? 2 : 2", "", "[true] ? 2 : 3", "", "u ? 2 : 2", "", "1 / 0 ? 2 : 2", "", "-t ? 1 : 1", "",
	)
}

// What is no value has none where it stands, also if what is made of it would be small again.
func TestPartsMustBeValues(t *testing.T) {
	long, deep := strings.Repeat("x", impl.MaxWord), chain(impl.MaxDepth, listSteps()[0])
	s := settingOf(append(usualBindings(), bind("long", leaf(impl.CellText, long)), bind("deep", deep), bind("wide", wideValue(impl.MaxCells)), bind("ten", wideValue(10)))...)
	for _, text := range []string{
		"length(long + s)", `long + "x" == s`, "length([deep])", "first([deep])", "length(first([[deep]]))", "length([wide])", "first([wide])", "length([ten, ten, ten, ten, ten, ten])", "contains([deep], 1)", "1000000000 * 2 / 2", "1000000000 + 1 - 1", "1 / 1000000 / 2 * 2", "0 * (1000000000 * 2)", "1000000000 * 2 > 1",
		"length(m + m + m + m + m)", "first([1, 2, 3, 4, 5] + [6, 7, 8, 9])", "length(wide + [1, 2])", `length(join([long, ""], "y"))`, "[deep] == [deep]", "[wide] != 1", "t && [deep] == 1", "f || long + s != s", "t ? length([deep]) : 1",
	} {
		if s.check(t, written(text)) {
			t.Errorf("%s has a value", text)
		}
	}
	for _, text := range []string{
		"length(long)", "long + e", "length(deep)", "[first(deep)]", "[first(wide)]", "[ten, ten, ten, ten, ten]", "deep == deep", "wide != deep", "f && [deep] == 1", "t || long + s != s", "t ? 1 : [deep]", "f ? [wide] : wide", "reverse(wide)", "1000000000 / 2 * 2", "[1, 2, 3, 4, 5] + [6, 7, 8]", "deep + deep", "wide + []",
	} {
		if !s.check(t, written(text)) {
			t.Errorf("%s has no value", text)
		}
	}
}

// partsToTry returns expressions of every kind: those that have a value of every kind, and those that have none.
func partsToTry() [][]impl.Cell {
	return writtenAll("0", "2", "1.5", `""`, `"ab"`, `"true"`, "true", "false", "[]", "[true]", "a", "b", "five", "s", "t", "f", "m", "n", "u", "srv.port", "-1", "1 / 3", "!f", "1 == 2", "1 / 0", "f()", "length(m)", "[u]", "true || u", "f && u", "t ? 1 : u", "-s")
}

func TestEveryCellOfEveryPart(t *testing.T) {
	s, parts, values := settingOf(usualBindings()...), partsToTry(), 0
	count := func(kind int, word string, list ...[]impl.Cell) {
		if s.check(t, tree(kind, word, list...)) {
			values++
		}
	}
	for _, p := range parts {
		s.check(t, p)
		for _, sign := range goodWords()[impl.CellUnary] {
			count(impl.CellUnary, sign, p)
		}
		for n := range impl.MaxParts + 1 {
			for _, name := range append(functionNames(), "f", "u", "s") {
				count(impl.CellCall, name, slices.Repeat([][]impl.Cell{p}, n)...)
			}
			count(impl.CellList, "", slices.Repeat([][]impl.Cell{p}, n)...)
		}
		for _, q := range parts {
			for _, sign := range slices.Concat(signRanks...) {
				count(impl.CellBinary, sign, p, q)
			}
			for _, name := range append(functionNames(), "f") {
				count(impl.CellCall, name, p, q)
			}
			count(impl.CellList, "", p, q)
			for _, r := range parts {
				count(impl.CellChoice, "", p, q, r)
			}
		}
	}
	if values < 5000 {
		t.Errorf("only %d expressions have values", values)
	}
}

// All small expressions of some cells.
func TestSmallExpressionsAreEvaluated(t *testing.T) {
	s := settingOf(usualBindings()...)
	atoms := []impl.Cell{{Kind: impl.CellNumber, Word: "2"}, {Kind: impl.CellTruth, Word: "true"}, {Kind: impl.CellName, Word: "f"}, {Kind: impl.CellName, Word: "u"}}
	unary, list := impl.Cell{Kind: impl.CellUnary, Word: "!", Many: 1}, impl.Cell{Kind: impl.CellList, Many: 2}
	signed := func(words ...string) []impl.Cell {
		var cells []impl.Cell
		for _, word := range words {
			cells = append(cells, impl.Cell{Kind: impl.CellBinary, Word: word, Many: 2})
		}
		return cells
	}
	choice := impl.Cell{Kind: impl.CellChoice, Many: 3}
	alphabets := [][]impl.Cell{
		slices.Concat(atoms, signed("&&", "||", "=="), []impl.Cell{unary, choice}),
		slices.Concat(atoms[:1], signed("+", "-", "*", "/", "%", "<"), []impl.Cell{{Kind: impl.CellNumber, Word: "0"}, {Kind: impl.CellUnary, Word: "-", Many: 1}, {Kind: impl.CellName, Word: "b"}}),
		slices.Concat(atoms[:2], signed("+", "!="), []impl.Cell{list, {Kind: impl.CellText, Word: "x"}, {Kind: impl.CellCall, Word: "first", Many: 1}, {Kind: impl.CellCall, Word: "length", Many: 1}, {Kind: impl.CellList}}),
	}
	values, others := 0, 0
	for _, alphabet := range alphabets {
		for _, list := range smallExprs(5, alphabet) {
			if s.check(t, list) {
				values++
			} else {
				others++
			}
		}
	}
	if values < 1000 || others < 1000 {
		t.Errorf("%d expressions have values and %d have none", values, others)
	}
}

func TestMadeExpressionsAreEvaluated(t *testing.T) {
	s, values, large, others := settingOf(usualBindings()...), 0, 0, 0
	for _, list := range madeExprs(10, 20000) {
		if expectedSpans(list) == nil {
			t.Fatalf("%s should be an expression", shape(list))
		}
		if !s.check(t, list) {
			others++
			continue
		}
		values++
		if len(list) > 20 {
			large++
		}
	}
	if values < 5000 || large < 500 || others < 1000 {
		t.Errorf("%d expressions have values, of which %d are large, and %d have none", values, large, others)
	}
	for _, list := range slices.Concat(validExprs(), limitExprs()) {
		s.check(t, list)
	}
}

// boundPairs looks for all pairs of values what all signs make of them, and counts those with values.
func boundPairs(t *testing.T, values [][]impl.Cell) int {
	t.Helper()
	n := 0
	for _, x := range values {
		for _, y := range values {
			s := settingOf(bind("x", x), bind("y", y))
			for _, sign := range slices.Concat(signRanks...) {
				if s.check(t, tree(impl.CellBinary, sign, leaf(impl.CellName, "x"), leaf(impl.CellName, "y"))) {
					n++
				}
			}
		}
	}
	return n
}

func TestSignsAtTheLimitsOfNumbers(t *testing.T) {
	var numbers [][]impl.Cell
	for _, f := range edgeFractions() {
		numbers = append(numbers, leaf(impl.CellNumber, textOf(f)))
		s := settingOf(bind("x", leaf(impl.CellNumber, textOf(f))))
		if got := s.value(t, written("-x")); !slices.Equal(got, leaf(impl.CellNumber, textOf(negative(f)))) {
			t.Errorf("- of %v is %v", f, got)
		}
		s.check(t, written("!x"))
	}
	if n := boundPairs(t, numbers); n < 10000 {
		t.Errorf("only %d expressions have values", n)
	}
}

func TestSignsOfWholeNumbersAndOthers(t *testing.T) {
	var numbers [][]impl.Cell
	for _, word := range []string{"0", "1", "2", "3", "6", "7", "10", "999999999", "1000000000", "1000000", "999999", "31623", "65536", "0.5", "1.5", "1/3", "7/3", "0.000001", "1/999999", "499999999.5"} {
		if _, ok := expectedRat(word); !ok {
			continue
		}
		numbers = append(numbers, leaf(impl.CellNumber, word))
		if word != "0" {
			numbers = append(numbers, leaf(impl.CellNumber, "-"+word))
		}
	}
	if n := boundPairs(t, numbers); n < 8000 {
		t.Errorf("only %d expressions have values", n)
	}
}

// Values of different kinds, lists, and values that differ in one cell.
func TestSignsOfAllValues(t *testing.T) {
	boundPairs(t, slices.Concat(fewValues(), valuesToCall(), limitValues()[:2]))
	equal, others := 0, 0
	for _, v := range slices.Concat(fewValues(), valuesToCall(), limitValues()[:3], randomValues()[:100]) {
		changes := otherCells(v)
		if len(changes) > 200 {
			changes = changes[:200]
		}
		for _, w := range append(changes, v) {
			s := settingOf(bind("x", v), bind("y", w))
			if s.bound == nil {
				continue
			}
			same := s.value(t, written("x == y"))
			if different := s.value(t, written("x != y")); (same[0].Word == "true") != slices.Equal(v, w) || different[0].Word == same[0].Word {
				t.Errorf("%v and %v are equal: %v, and different: %v", v, w, same, different)
			}
			if slices.Equal(v, w) {
				equal++
			} else {
				others++
			}
		}
	}
	if equal < 100 || others < 3000 {
		t.Errorf("%d values are equal and %d are not", equal, others)
	}
}

func TestJoinedTextsHaveALimit(t *testing.T) {
	for m := range impl.MaxWord + 1 {
		for n := range impl.MaxWord + 1 {
			a, b := leaf(impl.CellText, strings.Repeat("\"", m)), leaf(impl.CellText, strings.Repeat("\n", n))
			list := tree(impl.CellBinary, "+", a, b)
			if settingOf().check(t, list) != (m+n <= impl.MaxWord) {
				t.Errorf("texts of %d and %d bytes together are wrong", m, n)
			}
		}
	}
}

func TestJoinedListsHaveLimits(t *testing.T) {
	plus := written("x + y")
	for m := range impl.MaxParts + 1 {
		for n := range impl.MaxParts + 1 {
			for _, part := range fewValues()[:6] {
				s := settingOf(bind("x", tree(impl.CellList, "", slices.Repeat([][]impl.Cell{part}, m)...)), bind("y", tree(impl.CellList, "", slices.Repeat(fewValues()[5:6], n)...)))
				if s.check(t, plus) != (m+n <= impl.MaxParts) {
					t.Errorf("lists of %d and %d parts together are wrong", m, n)
				}
			}
		}
	}
	// Lists of lists have many cells in few parts, so that together the cells may be too many where the parts are not.
	fits, tooMany := 0, 0
	for m := 1; m <= impl.MaxCells; m++ {
		for n := 1; n <= impl.MaxCells; n++ {
			x, y := tree(impl.CellList, ""), tree(impl.CellList, "")
			if m > 1 {
				x = wideValue(m)
			}
			if n > 1 {
				y = wideValue(n)
			}
			ok := settingOf(bind("x", x), bind("y", y)).check(t, plus)
			if ok != (m+n-1 <= impl.MaxCells && x[0].Many+y[0].Many <= impl.MaxParts) {
				t.Errorf("lists of %d and %d cells together are %v", m, n, ok)
			}
			if ok {
				fits++
			} else if x[0].Many+y[0].Many <= impl.MaxParts {
				tooMany++
			}
		}
	}
	if fits < 1000 || tooMany < 10 {
		t.Errorf("%d lists fit together and %d have too many cells", fits, tooMany)
	}
}

func TestListsHaveADepth(t *testing.T) {
	texts := []string{"[x]", "[[x]]", "[1, x, 2]", "[x] + []", "x + x", "[x] + x", "x + [x]", "reverse([x])", "t ? [x] : x", "[first(x)]", "x == [x]", "[x, [x]]"}
	for _, step := range listSteps() {
		for depth := 2; depth <= impl.MaxDepth; depth++ {
			s := settingOf(bind("x", chain(depth, step)), bind("t", leaf(impl.CellTruth, "true")))
			for _, text := range texts {
				s.check(t, written(text))
			}
			if _, ok := impl.Evaluate(written("[x]"), s.env); ok && depth == impl.MaxDepth {
				t.Errorf("a list of the depth %d is in a list", depth)
			}
		}
	}
}

// Numbers that cannot be written in an expression stand in bindings, and are made by signs.
func TestNumbersThatAreNotWritten(t *testing.T) {
	for _, f := range validFractions() {
		word := textOf(f)
		s := settingOf(bind("x", leaf(impl.CellNumber, word)), bind("p", leaf(impl.CellNumber, textOf(fraction(f.Top, 1)))), bind("q", leaf(impl.CellNumber, textOf(fraction(f.Bottom, 1)))))
		for _, text := range []string{"x", "p / q", "--x", "0 + x", "x * 1", "x / 1", "min(x)", "first([x])", "x - 0"} {
			if got := s.value(t, written(text)); !slices.Equal(got, leaf(impl.CellNumber, word)) {
				t.Errorf("%s with %s is %v", text, word, got)
			}
			s.check(t, written(text))
		}
		for _, text := range []string{"[x]", "x == p / q", "x != -x", "x < p", "-x", "x - x", "x / x"} {
			s.check(t, written(text))
		}
		// As a cell of the expression itself it is there only without - and /.
		list := leaf(impl.CellNumber, word)
		if s.check(t, list) == strings.ContainsAny(word, "-/") {
			t.Errorf("the number %s in an expression is wrong", word)
		}
	}
}

func TestInvalidExpressionsAreNotEvaluated(t *testing.T) {
	usual := usualBindings()
	for _, env := range [][]impl.Binding{nil, {}, usual} {
		s := settingOf(env...)
		for _, list := range slices.Concat(invalidExprs(), notValues()) {
			ok := s.check(t, list)
			if expectedSpans(list) == nil && ok {
				t.Errorf("%s has a value", shortly(list))
			}
			if len(list) == 0 || len(list) > impl.MaxCells || expectedSpans(list) != nil {
				continue
			}
			// Where it is not looked at it is no expression, too.
			truth := leaf(impl.CellTruth, "true")
			for _, whole := range [][]impl.Cell{tree(impl.CellBinary, "||", truth, list), tree(impl.CellChoice, "", truth, truth, list), tree(impl.CellChoice, "", tree(impl.CellUnary, "!", truth), list, truth)} {
				if s.check(t, whole) && expectedSpans(whole) == nil {
					t.Errorf("%s has a value", shortly(whole))
				}
			}
		}
	}
	for _, c := range []impl.Cell{{}, {Kind: 10}, {Kind: impl.CellNumber, Word: "-1"}, {Kind: impl.CellNumber, Word: "1/3"}, {Kind: impl.CellName, Word: "A"}, {Kind: impl.CellName, Word: "true"}, {Kind: impl.CellTruth, Word: "a"}, {Kind: impl.CellCall, Word: "a.b"}, {Kind: impl.CellText, Word: "\x01"}} {
		s, truth := settingOf(usual...), leaf(impl.CellTruth, "true")
		for _, list := range [][]impl.Cell{{c}, tree(impl.CellBinary, "||", truth, []impl.Cell{c}), tree(impl.CellChoice, "", truth, truth, []impl.Cell{c})} {
			if s.check(t, list) {
				t.Errorf("%v has a value", list)
			}
		}
	}
}

// The whole must be an expression: with the first part of a sign alone, or with more cells, there is no value.
func TestCellsBehindTheEndAreNotEvaluated(t *testing.T) {
	s := settingOf(usualBindings()...)
	for _, list := range slices.Concat(partsToTry(), madeExprs(3, 200)) {
		room := slices.Concat(list, list, list)
		s.check(t, room[:len(list)])
		for _, other := range [][]impl.Cell{room[:len(list)-1], room[:len(list)+1], room[:2*len(list)], append(slices.Clip(list), leaf(impl.CellTruth, "true")...)} {
			if s.check(t, other) {
				t.Errorf("%s has a value", shortly(other))
			}
		}
		if !slices.Equal(room, slices.Concat(list, list, list)) {
			t.Errorf("the cells behind %s were changed", shortly(list))
		}
	}
}

// A name is looked up as a whole, wherever its binding stands.
func TestNamesHaveBindings(t *testing.T) {
	names := []string{"a", "aa", "a.a", "a.a.a", "a_a", "a1", "b", "a.b", "b.a", "true.a", "a.true", "length", "min", "nnnnnnnnnnnn", "nnnnnnnnnnnn.nnnnnnnnnnnn"}
	r := rand.New(rand.NewSource(96))
	for bits := range 1 << 10 {
		var env []impl.Binding
		for k, name := range names {
			if bits>>(k%10)&1 == 1 {
				env = append(env, bind(name, leaf(impl.CellText, name)))
			}
		}
		r.Shuffle(len(env), func(i, j int) { env[i], env[j] = env[j], env[i] })
		s := settingOf(env...)
		for k, name := range names {
			got, ok := impl.Evaluate(leaf(impl.CellName, name), env)
			if ok != (bits>>(k%10)&1 == 1) || ok && !slices.Equal(got, leaf(impl.CellText, name)) {
				t.Errorf("the value of %s with %v is %v, %v", name, env, got, ok)
			}
			s.check(t, leaf(impl.CellName, name))
		}
	}
}
