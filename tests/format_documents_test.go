package tests

import (
	"math/rand"
	"slices"
	"strings"
	"testing"

	"loop.example/configformatter/impl"
)

func TestTextsAreFormattedByHand(t *testing.T) {
	cases := [][2]string{
		{"a = 1\n", "a = 1\n"}, {"a = 1", "a = 1\n"}, {"a=1", "a = 1\n"}, {"   a   =   1   ", "a = 1\n"}, {"a=1\nb=2", "a = 1\nb = 2\n"}, {"a= 1 \nb =2 \n", "a = 1\nb = 2\n"},
		// Blank lines at the beginning, at the end, and several together.
		{"\na=1", "a = 1\n"}, {"\n\n\na=1", "a = 1\n"}, {"  \n \na=1", "a = 1\n"}, {"a=1\n\n", "a = 1\n"}, {"a=1\n\n\n\n", "a = 1\n"}, {"a=1\n  \n ", "a = 1\n"}, {"\n\na=1\n\n\nb = (2)\n\n", "a = 1\n\nb = 2\n"}, {"a=1\n\nb=2", "a = 1\n\nb = 2\n"}, {"a=1\n\n\n\n\nb=2", "a = 1\n\nb = 2\n"}, {"a=1\n   \n \n  b=2", "a = 1\n\nb = 2\n"}, {"a=1\n\nb=2\n\n\nc=3", "a = 1\n\nb = 2\n\nc = 3\n"},
		// Blank lines behind an opening line, and before a closing one.
		{"q{\n}", "q {\n}\n"}, {"q{\n\n}", "q {\n}\n"}, {"q   {\n\n\n\n}\n", "q {\n}\n"}, {"q{\n\na=1\n}", "q {\n  a = 1\n}\n"}, {"q{\na=1\n\n}", "q {\n  a = 1\n}\n"}, {"q{\n\n\na=1\n\n\n}\n\n", "q {\n  a = 1\n}\n"}, {"q{\na=1\n\n\nb=2\n}", "q {\n  a = 1\n\n  b = 2\n}\n"}, {"\nq{\n}\n\n\nr{\n}\n", "q {\n}\n\nr {\n}\n"}, {"q{\n}\nr{\n}", "q {\n}\nr {\n}\n"}, {"q{\n\nr{\n\n}\n\n}", "q {\n  r {\n  }\n}\n"}, {"q{\nr{\n}\n\n\ns{\n}\n}", "q {\n  r {\n  }\n\n  s {\n  }\n}\n"}, {"a=1\n\n\nq{\n}\n\n\nb=2", "a = 1\n\nq {\n}\n\nb = 2\n"},
		{"q{\nr{\ns{\nt{\n\na=1\n\n}\n\n}\n\n}\n\n}\n", "q {\n  r {\n    s {\n      t {\n        a = 1\n      }\n    }\n  }\n}\n"}, {"        q {\n  }\n", "q {\n}\n"}, {"q {\n       a = 1\n    # x\n       }  ", "q {\n  a = 1\n  # x\n}\n"},
		// Notes.
		{"#", "#\n"}, {"#  ", "#\n"}, {"#x", "# x\n"}, {"  #   x  ", "# x\n"}, {"##x", "# #x\n"}, {"###", "# ##\n"}, {"# # x", "# # x\n"}, {"a=1#", "a = 1\n"}, {"a=1#x", "a = 1 # x\n"}, {"a=1   #   x   ", "a = 1 # x\n"}, {"a=1##", "a = 1 # #\n"}, {"a=1# # ", "a = 1 # #\n"}, {"#a  b", "# a  b\n"}, {"#\n\n\n#", "#\n\n#\n"}, {"q{\n#  hi\na=(1)#one\n\n}\n", "q {\n  # hi\n  a = 1 # one\n}\n"}, {"\n#\"\n", "# \"\n"},
		// Expressions.
		{"a=((1.50))", "a = 1.5\n"}, {"a=\"#\"#\"", "a = \"#\" # \"\n"}, {`a="\"#"# \"`, `a = "\"#" # \"` + "\n"}, {"a=[1,b,\"x , y\"]", "a = [1, b, \"x , y\"]\n"}, {"a=c?1:f(x,y)", "a = c ? 1 : f(x, y)\n"}, {"a=b-(c-d)", "a = b - (c - d)\n"}, {"a=(b-c)-d", "a = b - c - d\n"}, {"a=!!x&&true", "a = !!x && true\n"}, {"a=b==c", "a = b == c\n"}, {"a=\"  \"", "a = \"  \"\n"}, {"a=01.0", "a = 1\n"},
	}
	for _, c := range cases {
		checkFormattedAs(t, c[0], c[1])
		// The model of the other tests is looked at here, too.
		if !checkFormatted(t, c[0]) {
			t.Errorf("%q should be a document", c[0])
		}
	}
}

func TestTextsThatAreNotFormatted(t *testing.T) {
	checkNotFormatted(t, "a =", "a", "x\n", "a = 1\nb =\n", "\n\nx", "}", "}\n", "q {", "q {\n", "q {\n\n", "q {\n}\n}\n", "q {\n}}\n", "a = 1\n}", "a = \"\n\"", "a = 1 +", "A = 1", "q.a = 1", "q {\n a = 1\n", letterText("((((()))))"), letterText(strings.Repeat("e", impl.MaxItems+1)), strings.Repeat("\n", impl.MaxItems+1), letterText(strings.Repeat("b", 29))+"\n\n", "# "+strings.Repeat("x", impl.MaxNote+1), "a = "+strings.Repeat("!", impl.MaxDepth)+"b")
	checkNotFormatted(t, invalidTexts()...)
	for _, line := range wrongLines() {
		checkNotFormatted(t, line, line+"\n", "a = 1\n"+line, line+"\na = 1\n", "q {\n"+line+"\n}\n", "\n\n"+line+"\n\n")
	}
	for _, bad := range append(forbiddenBytes(), "\xc3\xa4", "\r\n") {
		checkNotFormatted(t, "a = 1"+bad, bad, bad+"\n", "\n"+bad, "# x\n# "+bad+"\n", "a = \""+bad+"\"\n")
	}
}

// Every short text of lines, with a line end behind the last one and without it.
func TestSmallTextsAreFormatted(t *testing.T) {
	formatted, others := 0, 0
	look := func(s string) {
		t.Helper()
		if checkFormatted(t, s) {
			formatted++
		} else {
			others++
		}
	}
	for _, letters := range append(textsUpTo(7, "be()"), textsUpTo(5, "bne()?")...) {
		s := letterText(letters)
		look(s)
		if s != "" {
			look(s[:len(s)-1])
		}
	}
	for _, s := range slices.Concat(textsUpTo(6, "q{}\n "), textsUpTo(6, "a=1\n"), textsUpTo(6, "# \nx"), smallTexts(), allBytes()) {
		look(s)
	}
	if formatted < 2000 || others < 10000 {
		t.Errorf("%d small texts are formatted and %d are not", formatted, others)
	}
}

// Promise 52: formatted documents stay, however they are written, with a line end behind the last line and without it.
func TestFormattedDocumentsStay(t *testing.T) {
	r := rand.New(rand.NewSource(152))
	left, stay := 0, 0
	for _, list := range validDocuments(153, 2500) {
		want, _ := expectedPrinted(expectedTidyItems(list))
		printed, _ := impl.PrintDocument(list)
		for _, s := range []string{printed, tightText(list), textOfLines(usualLines(list)), textOfLines(randomLines(r, list)), textOfLines(randomLines(r, list))} {
			checkFormattedAs(t, s, want)
			checkFormatted(t, s)
			if list != nil && list[len(list)-1].Kind != impl.ItemBlank {
				checkFormattedAs(t, s[:len(s)-1], want)
			}
		}
		if tidy, ok := impl.PrintDocument(impl.TidyItems(list)); tidy != want || !ok {
			t.Fatalf("the tidy document of %s has the text %.300q, %v, and not %.300q", lettersOf(list), tidy, ok, want)
		}
		if printed == want {
			stay++
		} else {
			left++
		}
	}
	if left < 500 || stay < 500 {
		t.Errorf("formatting changes %d printed documents and leaves %d", left, stay)
	}
}

// With blank lines put in wherever they do not count a text is formatted as the same one.
func TestBlankLinesThatAreLeftOut(t *testing.T) {
	for _, letters := range textsUpTo(6, "be()") {
		list := distinctItems(letters)
		if !expectedDocument(list) || letters != expectedTidy(letters) {
			continue
		}
		want, _ := impl.PrintDocument(list)
		for n := range 4 {
			blank := strings.Repeat(strings.Repeat(" ", n)+"\n", n)
			s := strings.NewReplacer("{\n", "{\n"+blank, "}\n", "\x00}\n", "\n\n", "\n\n"+blank).Replace(want)
			s = blank + strings.ReplaceAll(s, "\x00", "\n"+blank) + blank
			if strings.Count(s, "\n") > impl.MaxItems {
				checkNotFormatted(t, s)
				continue
			}
			checkFormattedAs(t, s, want)
		}
	}
}

// Every formatted text is already tidy: no line ends with a space, and blank lines stand only between others.
func TestFormattedTextsAreTidy(t *testing.T) {
	r := rand.New(rand.NewSource(154))
	for _, list := range validDocuments(155, 1500) {
		s, ok := impl.FormatDocument(textOfLines(randomLines(r, list)))
		if !ok {
			t.Fatalf("%s is not formatted", lettersOf(list))
		}
		tidy, _ := impl.ReadDocument(s)
		for _, pair := range []string{"bb", "(b", "b)"} {
			if strings.Contains("("+lettersOf(tidy)+")", pair) || strings.Contains(s, " \n") {
				t.Fatalf("%s is formatted as %.300q", lettersOf(list), s)
			}
		}
		if s != "" && !strings.HasSuffix(s, "\n") {
			t.Fatalf("%.300q has no line end at its end", s)
		}
		for _, line := range impl.LinesOf(s) {
			if spaces := len(line) - len(strings.TrimLeft(line, " ")); spaces%2 != 0 || spaces > 2*impl.MaxNest {
				t.Fatalf("%q begins with %d spaces", line, spaces)
			}
		}
	}
}

// A text that is longer when it is formatted may have no room; then it is not formatted.
func TestFormattedTextsThatHaveNoRoom(t *testing.T) {
	for blocks := range impl.MaxNest + 1 {
		for n := impl.MaxText - 3; n <= impl.MaxText+3; n++ {
			list := documentOfBytes(n, blocks)
			s := tightText(list)
			if len(s) >= n || len(s) >= impl.MaxText {
				t.Fatalf("a text of %d bytes should be shorter than %d", len(s), n)
			}
			fits := n <= impl.MaxText
			if checkFormatted(t, s) != fits || checkFormatted(t, s[:len(s)-1]) != fits {
				t.Errorf("a document of %d bytes is formatted, or not", n)
			}
			if got, _ := impl.FormatDocument(s); fits && len(got) != n {
				t.Errorf("a document of %d bytes is formatted as a text of %d", n, len(got))
			}
			// A blank line that is left out needs no room, and one that stays does.
			if checkFormatted(t, "\n"+s+"\n") != fits || checkFormatted(t, s+"\n#") != (n+3 <= impl.MaxText) {
				t.Errorf("a document of %d bytes is formatted with blank lines at its ends, or not", n)
			}
			between := tightText(slices.Insert(slices.Clone(list), blocks+1, blanks(2)...))
			if checkFormatted(t, between) != (n+1 <= impl.MaxText) {
				t.Errorf("a document of %d bytes is formatted with a blank line, or not", n)
			}
		}
	}
}

// A document whose text has no room may be tidy as one whose text has, and only that one is printed.
func TestBlankLinesThatHaveNoRoom(t *testing.T) {
	for blocks := range impl.MaxNest + 1 {
		list := documentOfBytes(impl.MaxText, blocks)
		want, _ := impl.PrintDocument(list)
		for _, more := range [][]impl.Item{slices.Concat(blanks(1), list), slices.Concat(list, blanks(2))} {
			checkNotPrinted(t, more)
			checkFormattedAs(t, tightText(more), want)
		}
		// Of the text that has all its spaces there is no room for another line.
		checkFormattedAs(t, want, want)
		checkFormattedAs(t, want[:len(want)-1], want)
		checkNotFormatted(t, "\n"+want, want+"\n", " "+want)
	}
}

// Texts of MaxText bytes are formatted, and those with one more are not valid.
func TestLongTextsAreFormatted(t *testing.T) {
	for _, s := range []string{"", "a = 1\n", "q {\n}\n", "# x\n", "q {\n  a = 1\n}\n"} {
		spaces := strings.Repeat(" ", impl.MaxText-len(s))
		checkFormattedAs(t, spaces+s, s)
		checkFormattedAs(t, s+spaces, s)
		checkNotFormatted(t, " "+spaces+s, s+spaces+" ", s+spaces+"\n")
	}
	checkFormattedAs(t, "a="+strings.Repeat(" ", impl.MaxText-3)+"1", "a = 1\n")
	checkFormattedAs(t, "a=1#"+strings.Repeat(" ", impl.MaxText-5)+"x", "a = 1 # x\n")
	checkFormattedAs(t, "#"+strings.Repeat(" ", impl.MaxText-2)+"x", "# x\n")
	checkFormattedAs(t, "q"+strings.Repeat(" ", impl.MaxText-4)+"{\n}", "q {\n}\n")
}

// With lines that are left out, put in or exchanged a text is formatted as its lines tell.
func TestChangedTextsAreFormatted(t *testing.T) {
	r := rand.New(rand.NewSource(156))
	formatted, others := 0, 0
	for _, list := range validDocuments(157, 2500) {
		lines := randomLines(r, list)
		for range 1 + r.Intn(3) {
			at := r.Intn(len(lines) + 1)
			more := randomLine(r, itemOf(itemLetters[1+r.Intn(5)], r.Intn(100)))
			if r.Intn(8) == 0 {
				more = wrongLines()[r.Intn(len(wrongLines()))]
			}
			if at == len(lines) || r.Intn(2) == 0 {
				lines = inserted(lines, at, more)
			} else {
				lines = slices.Delete(slices.Clone(lines), at, at+1)
			}
		}
		if checkFormatted(t, textOfLines(lines)) {
			formatted++
		} else {
			others++
		}
	}
	if formatted < 500 || others < 500 {
		t.Errorf("%d changed texts are formatted and %d are not", formatted, others)
	}
}
