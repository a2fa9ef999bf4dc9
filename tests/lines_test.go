package tests

import (
	"math/rand"
	"slices"
	"strings"
	"testing"

	"loop.example/configformatter/impl"
)

func TestKindsOfLines(t *testing.T) {
	checkLines(t, [][2]string{
		{"", "blank"}, {"     ", "blank"}, {"}", "}"}, {"#", "#"}, {"# x", "#x"}, {"#x", "#x"}, {"q {", "q{"}, {"q{", "q{"}, {"q    {", "q{"},
		{"a = 1", "a=1"}, {"a=1", "a=1"}, {"a= 1", "a=1"}, {"a =1", "a=1"}, {"a   =   1", "a=1"},
		{"a = 1 # one", "a=1 #one"}, {"a=1#one", "a=1 #one"}, {"a = 1   #   one", "a=1 #one"}, {"a=1# one", "a=1 #one"}, {"a=1 #one", "a=1 #one"},
		{"port = 8000 + 80 # the usual one", "port={+ 8000 80} #the usual one"}, {"name = upper(\"x\")", "name=upper('x')"}, {"x_1=[1,[true]]", "x_1=[1 [TRUE]]"},
		{"a = c ? 1 : q.b", "a={? c 1 q.b}"}, {"a = ((1.50))", "a=1.5"}, {"a = a", "a=a"}, {"a = !b", "a={! b}"}, {"a=-1", "a={- 1}"}, {"a = true", "a=TRUE"}, {"a = \"\"", "a=''"},
	})
}

func TestLinesOfSpaces(t *testing.T) {
	for _, n := range []int{0, 1, 2, 3, 10, 100, impl.MaxText - 1, impl.MaxText, impl.MaxText + 1, 1 << 20} {
		checkRead(t, strings.Repeat(" ", n), impl.Item{Kind: impl.ItemBlank})
	}
	// Only the byte 32 is a space.
	for b := range 256 {
		s := string([]byte{byte(b)})
		for _, line := range []string{s, " " + s, s + " ", " " + s + " ", s + s} {
			if i, ok := impl.ReadItem(line); ok && i.Kind == impl.ItemBlank && b != ' ' {
				t.Errorf("%q is blank", line)
			}
			checkLine(t, line)
		}
	}
}

func TestClosingLines(t *testing.T) {
	checkNoItems(t, "} x", "x }", "}}", "} }", "}#", "} # x", "} #", "}{", "{}", "q }", "a = 1 }", "}=1", "} = 1", "a }", "\"}\"", "(})", "}\n", "\n}", "},", "};", "}}}}")
	checkLines(t, [][2]string{{"# }", "#}"}, {"a = \"}\"", "a='}'"}, {"a = 1 # }", "a=1 #}"}})
}

func TestOpeningLines(t *testing.T) {
	checkNoItems(t,
		"q { # x", "q {#", "q { #", "q {# x", "q { x", "q {x", "q {}", "q { }", "q {{", "q { {", "q { a = 1", "q { = 1", "q {=", "q { }", "q }{", "q [", "q (", "q = {", "q == {", "q # {", "q # x {",
		"{", " {", "{ q", "{q", "q q {", "q, {", "q. {", "q.{", ".q {", "\"q\" {", "(q) {", "1 {", "!q {", "q\n{", "q {\n", "q\t{", "{ {", "q", "q:", "q: {",
	)
	checkLines(t, [][2]string{{"a = \"{\"", "a='{'"}, {"a = 1 # {", "a=1 #{"}, {"# q {", "#q {"}, {"#{", "#{"}})
}

func TestNoteLines(t *testing.T) {
	long := strings.Repeat("x", impl.MaxNote)
	spacy := "x" + strings.Repeat(" ", impl.MaxNote-2) + "y"
	checkLines(t, [][2]string{
		{"#", "#"}, {"# ", "#"}, {"#      ", "#"}, {"##", "##"}, {"# #", "##"}, {"## ", "##"}, {"## x ", "## x"}, {"#  x  y  ", "#x  y"}, {"###", "###"}, {"# # # x", "## # x"}, {"#x#", "#x#"},
		{"#\"", "#\""}, {"# \"x\"", "#\"x\""}, {"#\"#\"", "#\"#\""}, {"# \"x # y", "#\"x # y"}, {"#\\", "#\\"}, {"# \\\" #", "#\\\" #"}, {"# a = 1", "#a = 1"}, {"# a = 1 # x", "#a = 1 # x"}, {"# q {", "#q {"}, {"# }", "#}"}, {"# true", "#true"}, {"#=", "#="}, {"#!~", "#!~"},
		{"#" + long, "#" + long}, {"# " + long, "#" + long}, {"#     " + long + "     ", "#" + long}, {"#" + long + "x", ""}, {"# " + long + "x", ""}, {"#" + long + " x", ""}, {"##" + long, ""}, {"## " + long[2:], "## " + long[2:]}, {"##" + long[1:], "##" + long[1:]}, {"# # " + long, ""},
		{"#" + spacy, "#" + spacy}, {"# " + spacy + " ", "#" + spacy}, {"#" + spacy + "z", ""}, {"#" + spacy + " z", ""},
		{"x # y", ""}, {"\"# x", ""}, {"\\# x", ""}, {"= # x", ""}, {"{ # x", ""}, {"a # x", ""}, {"a # = 1", ""}, {"a #= 1", ""}, {"a # b = 1", ""}, {"a# x", ""},
	})
}

func TestLengthsOfNotesInLines(t *testing.T) {
	for n := range 130 {
		for _, note := range []string{strings.Repeat("x", n), strings.Repeat("#", n), strings.Repeat("\"", n), strings.Repeat(" ", n), "x" + strings.Repeat(" ", n) + "x", strings.Repeat("x", n) + "\\"} {
			want := expectedNote(strings.Trim(note, " "))
			for _, line := range []string{"#" + note, "# " + note, "#    " + note, "a = 1 #" + note, "a=1# " + note, "a = \"#\" #  " + note} {
				if checkLine(t, line) != want {
					t.Errorf("%q stands for an item: %v", line, !want)
				}
			}
		}
	}
	for _, n := range []int{impl.MaxNote + 256, impl.MaxText, 1 << 20} {
		checkNoItemOf(t, "#"+strings.Repeat("x", n), "a = 1 #"+strings.Repeat("x", n), "a = 1 # x"+strings.Repeat(" ", n)+"x")
		spaces := strings.Repeat(" ", n)
		checkRead(t, "#"+spaces+"x"+spaces, impl.Item{Kind: impl.ItemNote, Note: "x"})
		checkRead(t, "a=1#"+spaces+"x"+spaces, impl.Item{Kind: impl.ItemEntry, Name: "a", Expr: leaf(impl.CellNumber, "1"), Note: "x"})
	}
}

// checkNoItemOf looks that lines stand for no item, without other spaces.
func checkNoItemOf(t *testing.T, lines ...string) {
	t.Helper()
	for _, line := range lines {
		checkRead(t, line, impl.Item{})
	}
}

// A # between quotation marks begins no note.
func TestNotesOfEntries(t *testing.T) {
	long := strings.Repeat("x", impl.MaxNote)
	checkLines(t, [][2]string{
		{`a = "#"`, `a='#'`}, {`a = "#" #`, `a='#'`}, {`a = "#" # x`, `a='#' #x`}, {`a = "#"#"#"`, `a='#' #"#"`}, {`a = "# x" # y`, `a='# x' #y`}, {`a = "x" # "y"`, `a='x' #"y"`}, {`a = "##" ## x`, `a='##' ## x`},
		{`a = "#" + "#" # #`, `a={+ '#' '#'} ##`}, {`a = ["#", "x", "#"] # x`, `a=['#' 'x' '#'] #x`}, {`a = "x" + "#`, ""}, {`a = "" # ""`, `a='' #""`}, {`a = ""#""`, `a='' #""`}, {`a = """#"`, ""},
		// A quotation mark behind a backslash does not count, and one behind two of them does.
		{`a = "\"#"`, `a='"#'`}, {`a = "\"#" # x`, `a='"#' #x`}, {`a = "\"" # x`, `a='"' #x`}, {`a = "\"#\"" # "`, `a='"#"' #"`}, {`a = "\\"#"`, `a='\' #"`}, {`a = "\\" # x`, `a='\' #x`}, {`a = "\\\"#" # x`, `a='\"#' #x`}, {`a = "\\\\"#x`, `a='\\' #x`}, {`a = "\\\\\"#"#x`, `a='\\"#' #x`}, {`a = "x\\"#"y"`, `a='x\' #"y"`}, {`a = "\n#" # x`, "a='\n#' #x"}, {`a = "\#" # x`, ""}, {`a = "\n" # \n`, `a='` + "\n" + `' #\n`},
		// Quotation marks that are not closed, before and behind the #.
		{`a = "x # y`, ""}, {`a = "#`, ""}, {`a = "`, ""}, {`a = " # x`, ""}, {`a = "\"# x`, ""}, {`a = "x\" # y`, ""}, {`a = "x" "# y`, ""}, {`a = 1 " # x`, ""}, {`a = 1 # "`, `a=1 #"`}, {`a = 1 # "x`, `a=1 #"x`}, {`a = 1 #"`, `a=1 #"`}, {`a = "x" # "y`, `a='x' #"y`}, {`a = "x # y" # "z`, `a='x # y' #"z`}, {`a = "x # y" z"`, ""}, {`a = "x\`, ""}, {`a = "\`, ""}, {`a = "# \`, ""},
		// Notes with quotation marks and backslashes.
		{`a = 1 # "x" "y"`, `a=1 #"x" "y"`}, {`a = 1 # "#"`, `a=1 #"#"`}, {`a = 1 # \"`, `a=1 #\"`}, {`a = 1 # \`, `a=1 #\`}, {`a = 1 #\#`, `a=1 #\#`}, {`a = 1 # " # "`, `a=1 #" # "`},
		// Outside of quotation marks no backslash is read.
		{`a = \"#"`, ""}, {`a = \"x" # y`, ""}, {`a = \# x`, ""}, {`a = 1 \# x`, ""}, {`a = \ # x`, ""}, {`a = 1 \" # x`, ""}, {`a = "x"\" # y`, ""}, {`a = "x" \# y`, ""}, {`a = \"1 # x"`, ""}, {`\a = 1`, ""}, {`a \= 1`, ""},
		// Notes that are empty, and those with more #.
		{"a = 1 #", "a=1"}, {"a = 1#", "a=1"}, {"a = 1 #      ", "a=1"}, {"a = 1 # x # y", "a=1 #x # y"}, {"a = 1 # x #", "a=1 #x #"}, {"a = 1 ##", "a=1 ##"}, {"a = 1 # #", "a=1 ##"}, {"a = 1 ## x", "a=1 ## x"}, {"a = 1 #x#y#", "a=1 #x#y#"}, {"a = 1 # b = 2", "a=1 #b = 2"}, {"a = 1 # }", "a=1 #}"}, {"a = 1 #  x  y  ", "a=1 #x  y"},
		{"a = 1 # " + long, "a=1 #" + long}, {"a = 1 #" + long + "x", ""}, {"a = 1 # " + long + "  ", "a=1 #" + long}, {"a = 1 ##" + long, ""}, {"a = \"" + long + "\"", "a='" + long + "'"}, {"a = \"" + long + "#\"", ""},
		{"a = # x", ""}, {"a =# x", ""}, {"a =#", ""}, {"a = # 1", ""}, {"a = #", ""}, {"a = ## 1", ""}, {"a = 1 + # 2", ""}, {"a = (1 # )", ""}, {"a = [1, # 2]", ""},
	})
}

func TestSignsOfEntries(t *testing.T) {
	checkNoItems(t, "a =", "a=", "a    =   ", "=", "= 1", "=1", " = ", "a == 1", "a==1", "a ==", "a = = 1", "a === 1", "a == b == 1", "a = b = 1", "a = 1 = 1", "a = b=1", "a = 1 =", "a = =", "a != 1", "a <= 1", "a >= 1", "a => 1", "a =< 1", "a := 1", "a += 1", "a : 1", "a 1", "a", "a b", "a b = 1", "a a = 1", "a, b = 1", "(a) = 1", "[a] = 1", "\"a\" = 1", "-a = 1", "!a = 1", "a() = 1", "a + b = 1", "a.b", "true", "1", "1 = 1", "a \"=\" 1", "a # = 1")
	checkLines(t, [][2]string{
		{"a = b == 1", "a={== b 1}"}, {"a=b==1", "a={== b 1}"}, {"a = b != 1", "a={!= b 1}"}, {"a = b <= 1", "a={<= b 1}"}, {"a = \"=\"", "a='='"}, {"a = 1 # = 1", "a=1 #= 1"}, {"a=!b", "a={! b}"}, {"a =!b", "a={! b}"}, {"a = (b == 1) == c", "a={== {== b 1} c}"}, {"a = b == 1 == c", ""},
	})
}

func TestNamesInLines(t *testing.T) {
	longest := strings.Repeat("n", impl.MaxName)
	checkLines(t, [][2]string{
		{longest + " = 1", longest + "=1"}, {longest + "=1", longest + "=1"}, {longest + " {", longest + "{"}, {longest + "{", longest + "{"}, {longest + "n = 1", ""}, {longest + "n=1", ""}, {longest + "n {", ""}, {longest + "n{", ""}, {longest + " n = 1", ""}, {longest + " n {", ""},
		{"q.a = 1", ""}, {"q.a {", ""}, {"q.a=1", ""}, {"q.a{", ""}, {"q. = 1", ""}, {".a = 1", ""}, {"q .a = 1", ""}, {"q. a = 1", ""}, {"a.b.c = 1", ""},
		{"true = 1", ""}, {"false = 1", ""}, {"true=1", ""}, {"true {", ""}, {"false {", ""}, {"false{", ""}, {"truth = 1", "truth=1"}, {"true_ = 1", "true_=1"}, {"tru {", "tru{"}, {"falsey {", "falsey{"}, {"trues=1", "trues=1"}, {"true1 = 1", "true1=1"}, {"a = false", "a=FALSE"},
		{"A = 1", ""}, {"aB = 1", ""}, {"A {", ""}, {"aB {", ""}, {"_a = 1", ""}, {"_ = 1", ""}, {"1a = 1", ""}, {"1 {", ""}, {"a-b = 1", ""}, {"a-b {", ""}, {"a$ = 1", ""}, {"a' = 1", ""}, {"a_ = 1", "a_=1"}, {"a1_b2 {", "a1_b2{"}, {"z9=1", "z9=1"},
	})
	one := leaf(impl.CellNumber, "1")
	for _, name := range slices.Concat(candidateWords(), textsUpTo(4, "az1_.A ")) {
		if strings.HasPrefix(name, "#") {
			// That is a note, whatever follows.
			continue
		}
		entry, open := impl.Item{Kind: impl.ItemEntry, Name: strings.Trim(name, " "), Expr: one}, impl.Item{Kind: impl.ItemOpen, Name: strings.Trim(name, " ")}
		if !expectedPlainName(entry.Name) {
			entry, open = impl.Item{}, impl.Item{}
		}
		for _, gap := range []string{"", " ", "    "} {
			if !strings.ContainsAny(name, "=#") {
				checkRead(t, name+gap+"=1", entry)
			}
			checkRead(t, name+gap+"{", open)
		}
	}
	for n := range 40 {
		name := strings.Repeat("n", n)
		for _, line := range []string{name + " = 1", name + "=1", name + " {", name + "{"} {
			if checkLine(t, line) != (n >= 1 && n <= 12) {
				t.Errorf("%q stands for an item, or not", line)
			}
		}
	}
	checkNoItemOf(t, strings.Repeat("a", impl.MaxText)+"=1", strings.Repeat("a", 1<<20)+"{", strings.Repeat("a ", 1<<19)+"= 1")
}

// Every item is read back, whatever spaces are between its parts and at its ends.
func TestWrittenItemsAreRead(t *testing.T) {
	spaces := []string{"", " ", "   "}
	for _, letter := range []byte("bne()") {
		for number := range 40 {
			i := itemOf(letter, number)
			exprs := []string{""}
			if i.Kind == impl.ItemEntry {
				exprs = spacings(plainWords(i.Expr))
			}
			for bits := range 81 {
				g := gaps{spaces[bits%3], spaces[bits/3%3], spaces[bits/9%3], spaces[bits/27]}
				expr := exprs[bits%len(exprs)]
				for _, noted := range []bool{false, true} {
					line := lineOf(i, expr, g, noted)
					checkRead(t, line, i)
					checkRead(t, spaces[number%3]+line+spaces[bits%3], i)
				}
			}
		}
	}
}

// Every expression can stand in an entry, and none that is too deep or too long.
func TestExpressionsInLines(t *testing.T) {
	r := rand.New(rand.NewSource(120))
	for _, list := range validExprs() {
		i := impl.Item{Kind: impl.ItemEntry, Name: "a", Expr: list}
		for _, note := range []string{"", "x", `"# "`} {
			i.Note = note
			checkRead(t, usualLine(i), i)
			checkRead(t, randomLine(r, i), i)
		}
	}
	for n := impl.MaxCells - 2; n <= impl.MaxCells+3; n++ {
		checkEntryOf(t, wide(n), n <= impl.MaxCells)
	}
	for _, step := range chainSteps() {
		for depth := impl.MaxDepth - 2; depth <= impl.MaxDepth+2; depth++ {
			checkEntryOf(t, chain(depth, step), depth <= impl.MaxDepth)
		}
	}
	for _, n := range []int{0, 39, 40, 41, 1000} {
		if checkLine(t, "a = "+parens(n, "1")) != (n <= 40) || checkLine(t, "a="+parens(n, "1")+"#x") != (n <= 40) {
			t.Errorf("1 in %d parentheses stands in an entry, or not", n)
		}
	}
}

// checkEntryOf looks whether an expression that is written can stand in an entry, with a note and without one.
func checkEntryOf(t *testing.T, list []impl.Cell, fits bool) {
	t.Helper()
	expr := strings.Join(plainWords(list), " ")
	for _, note := range []string{"", "x"} {
		i := impl.Item{Kind: impl.ItemEntry, Name: "a", Expr: list, Note: note}
		if !fits {
			i = impl.Item{}
		}
		checkRead(t, "a = "+expr+" # "+note, i)
		checkRead(t, "a="+expr+"#"+note, i)
	}
}

// What ReadExpr refuses stands in no entry, and what it accepts does, unless it has a # that begins a note.
func TestTextsOfExpressionsInLines(t *testing.T) {
	refused := []string{
		"", " ", "a b", "1 2", "1 +", "+ 1", "a.", "a..b", "true.", "1.", ".5", "01.", "12345678901", "1.1234567", "()", "(1", "1)", "[1", "1]", "[1,]", "f(", "f(1", "f(1,)", "a ? b", "a ? b :", "a : b", "a < b < c", "a = b", "=", "a & b", "a | b", "'x'", "`x`", "A", "_", "{", "}", "{}", "q {", "1 }", "\"\\x\"", "\"\\\"", "@", ";", "1;", "a.b.c(1)", strings.Repeat("n", 13),
	}
	for _, expr := range refused {
		checkNoItems(t, "a = "+expr, "a="+expr, "a = "+expr+" # x", "a="+expr+"#")
	}
	for _, s := range slices.Concat(textsUpTo(4, "a1+(\"# "), goodCodes(), badCodes()) {
		for _, line := range []string{"a = " + s, "a=" + s, "a=" + s + " # x"} {
			checkLine(t, line)
		}
		if !strings.ContainsAny(s, "#\"") {
			want := impl.Item{Kind: impl.ItemEntry, Name: "a", Expr: expectedExpr(s)}
			if want.Expr == nil {
				want = impl.Item{}
			}
			checkRead(t, "a="+s, want)
			checkRead(t, "a="+s+"#", want)
		}
	}
}

// Spaces at the ends of a line do not matter, also where they are many; the text of an expression, with its spaces, is one for ReadExpr.
func TestLongLines(t *testing.T) {
	one := impl.Item{Kind: impl.ItemEntry, Name: "a", Expr: leaf(impl.CellNumber, "1")}
	lines := map[string]impl.Item{"}": {Kind: impl.ItemClose}, "#": {Kind: impl.ItemNote}, "q{": {Kind: impl.ItemOpen, Name: "q"}, "a=1": one, "a = 1 #": one, "a": {}, "a=": {}, "{": {}, "} }": {}}
	for _, n := range []int{impl.MaxText - 4, impl.MaxText - 3, impl.MaxText - 2, impl.MaxText - 1, impl.MaxText, impl.MaxText + 1, 1 << 20} {
		spaces := strings.Repeat(" ", n)
		for line, want := range lines {
			checkRead(t, spaces+line, want)
			checkRead(t, line+spaces, want)
			checkRead(t, spaces+line+spaces, want)
		}
		checkRead(t, "q"+spaces+"{", impl.Item{Kind: impl.ItemOpen, Name: "q"})
		checkRead(t, "a"+spaces+"=1", one)
		want := one
		if n+1 > impl.MaxText {
			want = impl.Item{}
		}
		checkRead(t, "a="+spaces+"1", want)
		checkRead(t, "a=1"+spaces+"#", want)
		checkNoItemOf(t, "a="+spaces+"1 +", "a=\""+spaces+"\"", "a=\""+spaces, "a=1"+strings.Repeat("#", n), strings.Repeat("}", n), strings.Repeat("\"", n), "a=\""+strings.Repeat("\\", n), "a="+strings.Repeat("\"", n|1), strings.Repeat("{", n), strings.Repeat("=", n))
	}
}

// Every short line is read as the patterns tell.
func TestSmallLines(t *testing.T) {
	items := map[int]int{}
	alphabets := []struct {
		most          int
		letters       string
		before, after string
	}{
		{6, "a1=\"#\\ {}", "", ""}, {7, "a =#{", "", ""}, {7, "\"#\\1", "a=", ""}, {6, "\"#\\ n", "a = \"", ""}, {6, "\"#\\x", "a = \"x\" ", ""}, {6, "\"#\\ ", "a = \"", "\" # \""}, {6, "q{ #}", "q ", ""}, {4, "\n #a=", "", ""}, {4, "=!<> b", "a ", " 1"}, {4, ".a_1A", "", " = 1"}, {4, ".a_1A", "", " {"},
	}
	for _, alphabet := range alphabets {
		for _, s := range textsUpTo(alphabet.most, alphabet.letters) {
			line := alphabet.before + s + alphabet.after
			want, _ := expectedLine(line)
			checkRead(t, line, want)
			items[want.Kind]++
		}
	}
	for kind := range 6 {
		if items[kind] < 6 {
			t.Errorf("of the kind %d there are only %d small lines", kind, items[kind])
		}
	}
}

// Every byte at every place of lines of every kind.
func TestBytesOfLines(t *testing.T) {
	lines := []string{"", " ", "}", "#", "# x y", "q {", "q{", "a = 1", "a=1#x", "a = \"x\" # y", "a = \"\\\"#\" # \"", "x_1 = [a, true]"}
	for _, line := range append(lines, wrongLines()[:8]...) {
		for at := range len(line) + 1 {
			for b := range 256 {
				with := line[:at] + string([]byte{byte(b)})
				for _, s := range []string{with + line[at:], with + line[min(at+1, len(line)):]} {
					want, ok := expectedLine(s)
					checkRead(t, s, want)
					if ok && (b == '\n' || b > 126 || b < 32) && strings.Contains(s, string([]byte{byte(b)})) {
						t.Errorf("%q stands for an item", s)
					}
				}
			}
		}
	}
	for _, bad := range append(forbiddenBytes(), "\n", "\xc3\xa4", "\r\n", "\n\n") {
		for _, line := range lines {
			checkNoItemOf(t, line+bad, bad+line, line+" "+bad+" ", " "+bad+" "+line, bad)
		}
		checkNoItemOf(t, "a"+bad+" = 1", "a"+bad+"= 1", "a ="+bad+"1", "a = 1"+bad+"# x", "a = \""+bad+"\"", "a = \"\\"+bad+"\"", "a = 1 # x"+bad+"y", "q"+bad+"{", "q "+bad+" {", "# x"+bad+"y", "a = 1 #"+bad, "#"+bad)
	}
}

func TestWrongLines(t *testing.T) {
	for _, line := range wrongLines() {
		checkNoItems(t, line)
	}
	// What makes an item invalid makes its line one that stands for none, but for spaces at the ends of its note.
	for _, i := range invalidItems() {
		checkLine(t, lineOf(i, expectedText(i.Expr), gaps{" ", " ", " ", " "}, false))
	}
}

// With a byte that is left out, put in, doubled or exchanged a line is read as the patterns tell.
func TestChangedLines(t *testing.T) {
	r := rand.New(rand.NewSource(121))
	const bytes = "aq1_.= {}#\"\\\\\"# +!<(["
	items, others := 0, 0
	for number := range 8000 {
		line := randomLine(r, itemOf(itemLetters[1+number%5], r.Intn(1000)))
		for range 1 + r.Intn(3) {
			at := r.Intn(len(line) + 1)
			b := bytes[r.Intn(len(bytes))]
			switch rest := line[at:]; {
			case rest == "" || number%3 == 0:
				line = line[:at] + string(b) + rest
			case number%3 == 1:
				line = line[:at] + rest[1:]
			default:
				line = line[:at] + string(b) + rest[1:]
			}
		}
		if checkLine(t, line) {
			items++
		} else {
			others++
		}
	}
	if items < 1000 || others < 1000 {
		t.Errorf("%d changed lines stand for items and %d do not", items, others)
	}
}

// Items share no memory with each other.
func TestReadItemsAreNew(t *testing.T) {
	for _, line := range []string{"a = [1, b, \"x\"] # one", "a = 1", "# x", "q {", "}", "", "a ="} {
		first, _ := impl.ReadItem(line)
		second, _ := impl.ReadItem(line)
		want, _ := expectedLine(line)
		spoilItems([]impl.Item{first})
		if !sameItem(second, want) {
			t.Errorf("the item of %q became %s", line, described(second))
		}
		checkLine(t, line)
	}
}
