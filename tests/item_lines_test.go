package tests

import (
	"math/rand"
	"slices"
	"strings"
	"testing"

	"loop.example/configformatter/impl"
)

// printedItem is an item with its line at the depth 0.
type printedItem struct {
	item impl.Item
	line string
}

// checkLinesByHand compares the lines of items at all depths with those that are given, and looks whether they are read back.
func checkLinesByHand(t *testing.T, cases []printedItem) {
	t.Helper()
	indents := []string{"", "  ", "    ", "      ", "        "}
	for _, c := range cases {
		for deep, indent := range indents {
			want := indent + c.line
			if c.item.Kind == impl.ItemBlank {
				want = ""
			}
			if got := impl.ItemLine(c.item, deep); got != want {
				t.Errorf("at %d the line of %q is %q and not %q", deep, described(c.item), got, want)
			}
		}
		// The model of the other tests is looked at here, too.
		if !checkItemLines(t, c.item) {
			t.Errorf("%q should not be valid", described(c.item))
		}
		checkReadBack(t, c.item)
	}
}

// entry returns an entry with the expression that a text stands for.
func entry(name string, expr string, note string) impl.Item {
	return impl.Item{Kind: impl.ItemEntry, Name: name, Expr: written(expr), Note: note}
}

func TestLinesOfKindsByHand(t *testing.T) {
	longest := strings.Repeat("n", impl.MaxName)
	checkLinesByHand(t, []printedItem{
		{impl.Item{Kind: impl.ItemBlank}, ""}, {impl.Item{Kind: impl.ItemBlank, Expr: []impl.Cell{}}, ""},
		{impl.Item{Kind: impl.ItemClose}, "}"}, {impl.Item{Kind: impl.ItemClose, Expr: []impl.Cell{}}, "}"},
		{impl.Item{Kind: impl.ItemOpen, Name: "q"}, "q {"}, {impl.Item{Kind: impl.ItemOpen, Name: "x_1"}, "x_1 {"}, {impl.Item{Kind: impl.ItemOpen, Name: longest}, longest + " {"}, {impl.Item{Kind: impl.ItemOpen, Name: "truth"}, "truth {"},
		{impl.Item{Kind: impl.ItemNote}, "#"}, {impl.Item{Kind: impl.ItemNote, Note: "hi"}, "# hi"}, {impl.Item{Kind: impl.ItemNote, Note: "two  words"}, "# two  words"},
		{entry("a", "1", ""), "a = 1"}, {entry("a", "1", "one"), "a = 1 # one"}, {entry("port", "8000 + 80", "the usual one"), "port = 8000 + 80 # the usual one"}, {entry(longest, "a", ""), longest + " = a"}, {entry("a", "a", "a"), "a = a # a"},
	})
}

func TestLinesOfNotesByHand(t *testing.T) {
	long := strings.Repeat("x", impl.MaxNote)
	spacy := "x" + strings.Repeat(" ", impl.MaxNote-2) + "y"
	notes := []string{"x", "#", "##", "# x", "#x", "x #", "x # y", "\"", "\"x\"", "\"x", "x\"", "\"#\"", "\" # \"", "\\", "\\\"", "\\n", "\\#", "a = 1", "a = 1 # x", "q {", "{", "}", "=", "= 1", "true", "!~", "two words", "two  words", "1,2", "--", long, spacy, strings.Repeat("#", impl.MaxNote), strings.Repeat("\"", impl.MaxNote), strings.Repeat("\\", impl.MaxNote)}
	for _, note := range notes {
		checkLinesByHand(t, []printedItem{
			{impl.Item{Kind: impl.ItemNote, Note: note}, "# " + note},
			{entry("a", "1", note), "a = 1 # " + note},
			{entry("b", `"#"`, note), `b = "#" # ` + note},
			{entry("c", `["\"", "\\"]`, note), `c = ["\"", "\\"] # ` + note},
		})
	}
	checkLinesByHand(t, []printedItem{{entry("b", `"#"`, ""), `b = "#"`}, {entry("c", `"\"#"`, ""), `c = "\"#"`}, {impl.Item{Kind: impl.ItemNote, Note: ""}, "#"}})
}

func TestLinesOfEntriesByHand(t *testing.T) {
	cases := [][2]string{
		{`"#"`, `"#"`}, {`"# x"`, `"# x"`}, {`"x # y"`, `"x # y"`}, {`"\\"`, `"\\"`}, {`"\\#"`, `"\\#"`}, {`"\""`, `"\""`}, {`"\"#"`, `"\"#"`}, {`"\"#\""`, `"\"#\""`}, {`"\\\"#"`, `"\\\"#"`}, {`"\n"`, `"\n"`}, {`"\n#\n"`, `"\n#\n"`}, {`""`, `""`}, {`" "`, `" "`}, {`"  x  "`, `"  x  "`}, {`"{"`, `"{"`}, {`"}"`, `"}"`}, {`"="`, `"="`}, {`"a = 1 # x"`, `"a = 1 # x"`},
		{`"#"+"#"`, `"#" + "#"`}, {`["#","\\","\""]`, `["#", "\\", "\""]`}, {`f("#",x)`, `f("#", x)`}, {`c?"#":"\""`, `c ? "#" : "\""`},
		{"a-(b-c)", "a - (b - c)"}, {"(a-b)-c", "a - b - c"}, {"((a+b))*c", "(a + b) * c"}, {"(a<b)==(c<d)", "(a < b) == (c < d)"}, {"!(a&&b)", "!(a && b)"}, {"-(-(1))", "--1"}, {"(a?b:c)?d:e", "(a ? b : c) ? d : e"},
		{"c?1:2", "c ? 1 : 2"}, {"c?d?1:2:3", "c ? d ? 1 : 2 : 3"}, {"a||b?c:d", "a || b ? c : d"}, {"[]", "[]"}, {"[1,[2,[]]]", "[1, [2, []]]"}, {"[(a)]", "[a]"}, {"f()", "f()"}, {"max(1,2)", "max(1, 2)"}, {"f(g(h()))", "f(g(h()))"},
		{"a==b", "a == b"}, {"a!=b", "a != b"}, {"a<=b", "a <= b"}, {"!a", "!a"}, {"-a", "-a"}, {"q.a.b", "q.a.b"}, {"true", "true"}, {"false", "false"}, {"01.50", "1.5"}, {"1/3", "1 / 3"}, {"0", "0"}, {"1000000000", "1000000000"},
	}
	for _, c := range cases {
		checkLinesByHand(t, []printedItem{{entry("a", c[0], ""), "a = " + c[1]}, {entry("x_1", c[0], "one"), "x_1 = " + c[1] + " # one"}, {entry("b", c[0], `"#" \`), "b = " + c[1] + ` # "#" \`}})
	}
}

// Every expression stands in the line of an entry as it is printed alone, also where it is as long or as deep as it can be.
func TestLinesOfEntries(t *testing.T) {
	notes := []string{"", "x", "", `"# "\"`, "", strings.Repeat("x", impl.MaxNote)}
	for k, list := range slices.Concat(validExprs(), limitExprs()) {
		i := impl.Item{Kind: impl.ItemEntry, Name: someNames()[k%len(someNames())], Expr: list, Note: notes[k%len(notes)]}
		want := i.Name + " = " + impl.ExprText(list)
		if i.Note != "" {
			want += " # " + i.Note
		}
		deep := k % (impl.MaxNest + 1)
		if got := impl.ItemLine(i, deep); got != strings.Repeat("  ", deep)+want {
			t.Errorf("the line of %.300q is %.300q and not %.300q", described(i), got, want)
		}
		checkItemLines(t, i)
		checkReadBack(t, i)
	}
}

// Every kind with every name, expression and note: only valid items have lines.
func TestLinesOfWhatItemsHave(t *testing.T) {
	part := strings.Repeat("n", impl.MaxName)
	names := []string{"", "a", "a.b", "true", part, part + "n", "A", "x_1", " a", "a\n", "truth"}
	exprs := [][]impl.Cell{nil, {}, leaf(impl.CellNumber, "1"), written("[a, b]"), chain(impl.MaxDepth, chainSteps()[0]), chain(impl.MaxDepth+1, chainSteps()[0]), wide(impl.MaxCells), wide(impl.MaxCells + 1), {{}}}
	notes := []string{"", "x", " ", " x", "x ", "a b", "a\nb", "\x01", "#", strings.Repeat("x", impl.MaxNote), strings.Repeat("x", impl.MaxNote+1)}
	valid := 0
	for _, kind := range candidateKinds() {
		for _, name := range names {
			for _, expr := range exprs {
				for _, note := range notes {
					if checkItemLines(t, impl.Item{Kind: kind, Name: name, Expr: expr, Note: note}) {
						valid++
					}
				}
			}
		}
	}
	// No expression in two ways, or one of four; one name of four, and one note of five.
	if want := 2 + 2*5 + 4*4*5 + 4*2 + 2; valid != want {
		t.Errorf("%d items are valid and not %d", valid, want)
	}
}

func TestItemsWithoutLines(t *testing.T) {
	for _, i := range invalidItems() {
		if checkItemLines(t, i) {
			t.Fatalf("%s should not be valid", shortly(i))
		}
		for deep := range impl.MaxNest + 1 {
			if got := impl.ItemLine(i, deep); got != "" {
				t.Errorf("at %d the line of %s is %q", deep, shortly(i), got)
			}
		}
	}
	for _, list := range invalidExprs() {
		if got := impl.ItemLine(impl.Item{Kind: impl.ItemEntry, Name: "a", Expr: list, Note: "x"}, 0); got != "" {
			t.Errorf("the line of an entry with %s is %.300q", shortly(list), got)
		}
	}
	for _, note := range append(forbiddenBytes(), "\n", "x\ny", strings.Repeat("x", 1<<20)) {
		if impl.ItemLine(impl.Item{Kind: impl.ItemNote, Note: note}, 0) != "" || impl.ItemLine(entry("a", "1", note), 0) != "" || impl.ItemLine(impl.Item{Kind: impl.ItemOpen, Name: "q", Note: "x"}, 0) != "" {
			t.Errorf("an item with the note %.70q has a line", note)
		}
	}
}

// No valid item has a line at a depth that is none, and all have one at the others; only that of a blank item is empty.
func TestDepthsOfLines(t *testing.T) {
	for kind := impl.ItemBlank; kind <= impl.ItemClose; kind++ {
		for number := range 40 {
			i := itemOf(itemLetters[kind], number)
			for deep := -200; deep <= 200; deep++ {
				line, valid := impl.ItemLine(i, deep), deep >= 0 && deep <= 4
				if (line != "") != (valid && kind != impl.ItemBlank) {
					t.Errorf("at %d the line of %q is %q", deep, described(i), line)
				}
			}
			checkItemLines(t, i)
			checkReadBack(t, i)
		}
	}
}

// Promise 50: read items can be printed.
func TestReadItemsCanBePrinted(t *testing.T) {
	r := rand.New(rand.NewSource(150))
	read := map[int]int{}
	look := func(line string) {
		t.Helper()
		i, ok := impl.ReadItem(line)
		if !ok {
			// The zero value is no valid item, and has no line.
			for deep := range impl.MaxNest + 1 {
				if s := impl.ItemLine(i, deep); s != "" {
					t.Fatalf("%q is no item and has the line %q", line, s)
				}
			}
			return
		}
		read[i.Kind]++
		checkReadBack(t, i)
		checkItemLines(t, i)
	}
	for number := range 5000 {
		look(randomLine(r, itemOf(itemLetters[1+number%5], r.Intn(1000))))
	}
	alphabets := []struct {
		most          int
		letters       string
		before, after string
	}{
		{5, "a1=\"# {}", "", ""}, {6, "\"#\\1", "a=", ""}, {5, "\"#\\ n", "a = \"", ""}, {5, "\"#\\ ", "a = \"", "\" # \""}, {5, "\"#\\ ", "a = 1 #", ""}, {5, "#\"x ", "#", ""}, {4, "q{ #}", "q ", ""},
	}
	for _, alphabet := range alphabets {
		for _, s := range textsUpTo(alphabet.most, alphabet.letters) {
			look(alphabet.before + s + alphabet.after)
		}
	}
	for _, line := range slices.Concat(wrongLines(), smallTexts(), allBytes()) {
		look(line)
	}
	for kind := impl.ItemBlank; kind <= impl.ItemClose; kind++ {
		if read[kind] < 10 {
			t.Errorf("of the kind %d only %d items are read", kind, read[kind])
		}
	}
}

// Promise 50: with more spaces around a line than a text may have bytes the item is still the same.
func TestLinesBetweenManySpaces(t *testing.T) {
	spaces := strings.Repeat(" ", impl.MaxText+1)
	for kind := impl.ItemBlank; kind <= impl.ItemClose; kind++ {
		for number := range 10 {
			i := itemOf(itemLetters[kind], number)
			for deep := range impl.MaxNest + 1 {
				line := impl.ItemLine(i, deep)
				checkRead(t, spaces+line, i)
				checkRead(t, line+spaces, i)
				checkRead(t, spaces+line+spaces, i)
			}
		}
	}
}

// Promise 51: lines of items can be read.
func TestLinesOfItemsCanBeRead(t *testing.T) {
	for _, note := range notesToPromise() {
		checkReadBack(t, impl.Item{Kind: impl.ItemNote, Note: note})
		checkReadBack(t, entry("a", `"\"#"`, note))
	}
	for _, name := range append(someNames(), candidateWords()...) {
		for _, i := range []impl.Item{{Kind: impl.ItemOpen, Name: name}, entry(name, "1", ""), entry(name, "1", "x")} {
			if checkItemLines(t, i) {
				checkReadBack(t, i)
			}
		}
	}
	for _, list := range longest() {
		i := impl.Item{Kind: impl.ItemEntry, Name: strings.Repeat("n", impl.MaxName), Expr: list, Note: strings.Repeat("x", impl.MaxNote)}
		checkItemLines(t, i)
		checkReadBack(t, i)
	}
}

// What stands in the memory behind the end of an expression is not printed, and nothing is written there.
func TestItemsOfLinesStay(t *testing.T) {
	list := itemsOf(strings.Repeat("ebn()e", 10))
	roomy := roomyItems(list)
	var lines []string
	for _, i := range roomy {
		lines = append(lines, impl.ItemLine(i, 2))
	}
	if !sameItems(roomy, list) {
		t.Errorf("%s became %s", shortly(list), shortly(roomy))
	}
	checkRoom(t, roomy)
	spoilItems(roomy)
	for k, i := range list {
		if lines[k] != expectedItemLine(i, 2) {
			t.Errorf("the line of %q became %q", described(i), lines[k])
		}
	}
	for _, list := range someExprs() {
		room := slices.Concat(list, list)
		for n := range 3 {
			checkItemLines(t, impl.Item{Kind: impl.ItemEntry, Name: "a", Expr: room[:len(list)-1+n]})
		}
		for _, letter := range []byte("bn()") {
			i := itemOf(letter, 1)
			i.Expr = room[:0]
			if !checkItemLines(t, i) {
				t.Errorf("an item of the kind %d without cells has no line", i.Kind)
			}
		}
	}
}
