package tests

import (
	"math/rand"
	"slices"
	"strings"
	"testing"

	"loop.example/configformatter/impl"
)

func TestDocumentsAreReadByHand(t *testing.T) {
	cases := []struct {
		text  string
		items string
	}{
		{"", ""}, {"\n", "blank"}, {"\n\n", "blank|blank"}, {" ", "blank"}, {" \n", "blank"}, {"\n ", "blank|blank"}, {"  \n  \n  ", "blank|blank|blank"},
		{"a = 1", "a=1"}, {"a = 1\n", "a=1"}, {"\na = 1", "blank|a=1"}, {"a = 1\n\n", "a=1|blank"}, {"\n\na = 1\n\n\nb = 2\n\n", "blank|blank|a=1|blank|blank|b=2|blank"}, {"a = 1\nb = 2", "a=1|b=2"},
		{"q {\n}", "q{|}"}, {"q {\n}\n", "q{|}"}, {"q{\n\n}", "q{|blank|}"}, {"q {\n a = 1\n}\n", "q{|a=1|}"}, {"q {\nr {\n}\n}", "q{|r{|}|}"}, {"q {\n}\nq {\n}", "q{|}|q{|}"}, {"q {\n  r {\n    a = b # \"\n  }\n  # x\n}\n", "q{|r{|a=b #\"|}|#x|}"},
		{"# x\n#\n##", "#x|#|##"}, {"a = 1\na = 1\n", "a=1|a=1"}, {"a = \"\\n\"\n", "a='\n'"}, {"   }  \n", "!0"}, {"  q {  \n  }  ", "q{|}"},
		{"server {\n  port = 80 # the usual one\n}\n\n\nname = \"x\\\\y~\"", "server{|port=80 #the usual one|}|blank|blank|name='x\\y~'"},
		{"a =", "!0"}, {"a = 1\nb =\n", "!1"}, {"a = 1\n\nb\n", "!2"}, {"x", "!0"}, {"\nx", "!1"}, {"}\n", "!0"}, {"\n}", "!1"}, {"q {\n}\n}\n", "!2"}, {"}\nq {\n", "!0"}, {"q {", "!1"}, {"q {\n", "!1"}, {"q {\n\n", "!2"}, {"q {\n \n ", "!3"}, {"q {\nr {\n}", "!3"}, {"a = 1\nq {\nb = 1", "!3"},
		{"a = \"\n\"", "!0"}, {"a = 1 # \"\nb = 2 # \"", "a=1 #\"|b=2 #\""}, {"a\n= 1", "!0"}, {"a =\n1", "!0"}, {"q\n{\n}", "!0"}, {"q { }", "!0"}, {"q {\n} x\n}", "!1"}, {"a = [\n1]", "!0"},
		{"a = 1\r\n", "!0"}, {"a = 1\n\tb = 2\n", "!0"}, {"a = 1\n# \xff\n", "!0"}, {"\n\n\x00", "!0"},
	}
	for _, c := range cases {
		list, fault := impl.ReadDocument(c.text)
		var items []string
		for _, i := range list {
			items = append(items, described(i))
		}
		got := strings.Join(items, "|")
		if fault >= 0 {
			got += "!" + string(rune('0'+fault))
		}
		if got != c.items || fault < -1 {
			t.Errorf("ReadDocument(%q) is %q, %d, and not %q", c.text, got, fault, c.items)
		}
		checkDocumentOf(t, c.text)
	}
}

func TestTextsThatAreNotValidAreNoDocuments(t *testing.T) {
	for _, s := range invalidTexts() {
		checkFaults(t, 0, s)
	}
	// The text is looked at before its lines, so that the number is not that of a line.
	for _, bad := range append(forbiddenBytes(), "\xc3\xa4", "\r") {
		checkFaults(t, 0, "a = 1\nb = 2\n"+bad, "a = 1\nb\n"+bad, "a = 1\nq {\n"+bad, "# x"+bad+"\n", "\n\n"+bad+"\n}", letterText(strings.Repeat("e", 30))+bad, letterText(strings.Repeat("e", 31))+bad)
	}
	spaces := strings.Repeat(" ", impl.MaxText)
	checkFaults(t, 0, "a = 1\nb = 2\n"+spaces, "\n"+spaces, spaces+" ", "\n\nx"+spaces, "q {\n"+spaces)
}

// Texts of MaxText bytes are read, and those with one more are not valid.
func TestLongDocuments(t *testing.T) {
	for _, s := range []string{"", "a = 1\n", "q {\n}\n", "\n\n\n", "# x\n", "q {\n  a = 1\n}\n"} {
		for _, more := range []string{s, s + "a = 1", s + "\n", s + "\n# x"} {
			spaces := strings.Repeat(" ", impl.MaxText-len(more))
			checkFaults(t, -1, spaces+more, more+spaces)
			checkFaults(t, 0, " "+spaces+more, more+spaces+" ")
		}
	}
	one := "a=" + strings.Repeat(" ", impl.MaxText-3) + "1"
	checkFaults(t, -1, one, one[:2]+one[3:], one[:2]+one[3:]+"\n", "a=1"+strings.Repeat(" ", impl.MaxText-4)+"#")
	checkFaults(t, 0, one+" ", one+"\n", "\n"+one, strings.Repeat("x", impl.MaxText), strings.Repeat("#", impl.MaxText), strings.Repeat("}\n", impl.MaxText/2), strings.Repeat("\"", impl.MaxText))
	checkFaults(t, impl.MaxItems, strings.Repeat("\n", impl.MaxText), strings.Repeat("#\n", impl.MaxText/2), strings.Repeat("a=1\n", impl.MaxText/4), strings.Repeat("q{\n}\n", impl.MaxText/5))
	checkFaults(t, impl.MaxNest, strings.Repeat("q{\n", impl.MaxText/3), strings.Repeat("q{\n", impl.MaxText/3)+"x")
}

// Every short text of lines, with a line end behind the last one and without it.
func TestSmallTextsOfDocuments(t *testing.T) {
	documents, faults := 0, 0
	for _, letters := range append(textsUpTo(6, "be()?"), textsUpTo(11, "()")...) {
		s := letterText(letters)
		fault := checkDocumentOf(t, s)
		if fault < 0 {
			documents++
		} else {
			faults++
		}
		// A last line that is empty is there only with its line end.
		if letters != "" && letters[len(letters)-1] != 'b' {
			checkFaults(t, fault, s[:len(s)-1])
		}
	}
	if documents < 500 || faults < 5000 {
		t.Errorf("%d small texts are documents and %d are none", documents, faults)
	}
	for _, s := range slices.Concat(textsUpTo(6, "q{}\n# "), textsUpTo(7, "q{\n}"), textsUpTo(6, "a=1\n"), smallTexts()) {
		checkDocumentOf(t, s)
	}
}

// Documents are read back, however they are written, with a line end behind the last line and without it.
func TestWrittenDocumentsAreRead(t *testing.T) {
	r := rand.New(rand.NewSource(122))
	for _, list := range validDocuments(123, 1500) {
		for _, lines := range [][]string{usualLines(list), randomLines(r, list), randomLines(r, list)} {
			s := textOfLines(lines)
			texts := []string{s}
			if len(lines) > 0 && lines[len(lines)-1] != "" {
				texts = append(texts, s[:len(s)-1])
			}
			for _, s := range texts {
				got, fault := impl.ReadDocument(s)
				if !sameItems(got, list) || fault != -1 {
					t.Fatalf("%s, written %.300q, is read as %s, %d", lettersOf(list), s, lettersOf(got), fault)
				}
				checkDocumentOf(t, s)
			}
		}
	}
}

// With an empty line at any place a document has one blank item more there, if there is room for it.
func TestEmptyLines(t *testing.T) {
	for k, list := range validDocuments(124, 200) {
		lines := usualLines(list)
		for at := range len(lines) + 1 {
			empty := strings.Repeat(" ", (k+at)%3)
			s := textOfLines(inserted(lines, at, empty))
			want := slices.Insert(clonedItems(list), at, impl.Item{Kind: impl.ItemBlank})
			fault := checkDocumentOf(t, s)
			if len(want) > impl.MaxItems {
				if fault != impl.MaxItems {
					t.Errorf("%s with an empty line at %d has the fault %d", lettersOf(list), at, fault)
				}
				continue
			}
			if got, _ := impl.ReadDocument(s); !sameItems(got, want) || fault != -1 {
				t.Errorf("%s with an empty line at %d is read as %s, %d", lettersOf(list), at, lettersOf(got), fault)
			}
		}
	}
}

// Of several wrong lines the first one is told, wherever it stands.
func TestFirstWrongLine(t *testing.T) {
	wrong := wrongLines()
	for k, list := range validDocuments(125, 100) {
		lines := usualLines(list)
		for at := range len(lines) + 1 {
			first, second := wrong[(k+at)%len(wrong)], wrong[(k+3*at+1)%len(wrong)]
			// Where there is no room for the line behind MaxItems, that line is told whatever it is.
			one := inserted(lines, at, first)
			behind := at + 1 + (k+at)%(len(lines)-at+1)
			two := inserted(one, behind, second)
			checkFaults(t, at, textOfLines(one), textOfLines(two), textOfLines(inserted(one, behind, "}", "}", "q {", "q {", "q {", "q {", "q {", "q {")))
			if at < len(lines) {
				other := slices.Clone(lines)
				other[at] = first
				checkFaults(t, at, textOfLines(other), strings.TrimSuffix(textOfLines(other), "\n"))
			}
		}
	}
	checkFaults(t, 0, "?\n?", "?\n?\n", "?\nq {", "?\n}", "?\n"+letterText("((((((")+"}", "?\n"+letterText(strings.Repeat("e", 40)))
}

// A wrong line is told before a block that is not closed, wherever it stands, and before a line that closes nothing or opens too many if it stands before that.
func TestWrongLinesAndBlocks(t *testing.T) {
	cases := []struct {
		letters string
		fault   int
	}{
		{"?(", 0}, {"(?", 1}, {"(e?", 2}, {"((?", 2}, {"(?)", 1}, {"((?)", 2}, {"(()?", 3}, {"e(?(", 2}, {"()?(", 2}, {"?((", 0}, {"(((?", 3}, {"((((?", 4},
		{"?)", 0}, {")?", 0}, {"e)?", 1}, {"e?)", 1}, {"())?", 2}, {"()?)", 2}, {")(", 0}, {")((((((", 0}, {"b)", 1}, {"n)", 1}, {"(e))", 3}, {"(())))", 4}, {"()())", 4}, {"))))", 0}, {"e))", 1},
		{"(((((", 4}, {"((((((", 4}, {"(((((?", 4}, {"((((?(", 4}, {"?(((((", 0}, {"e(((((", 5}, {"(e(e(e(e(", 8}, {"((((()))))", 4}, {"(((()(", 6}, {"(((())(((", 8}, {"(((()(()", 6}, {"((((e(", 5}, {"((((e))))(((((", 13}, {"((((()))))?", 4}, {"((((()", 4}, {"(((((e", 4}, {")(((((", 0}, {"(((((" + ")))))))", 4},
		{"(", 1}, {"((", 2}, {"(((", 3}, {"((((", 4}, {"(e", 2}, {"(b", 2}, {"(bb", 3}, {"(bbb", 4}, {"e(", 2}, {"()(", 3}, {"(()", 3}, {"((()", 4}, {"((((e))", 7}, {"(e)(e", 5}, {"(()()", 5},
	}
	for _, c := range cases {
		s := letterText(c.letters)
		checkFaults(t, c.fault, s)
		if c.letters[len(c.letters)-1] != 'b' {
			checkFaults(t, c.fault, s[:len(s)-1])
		}
	}
}

// The line that opens one block too many is told, and none that stands behind it.
func TestBlocksInBlocks(t *testing.T) {
	for n := range 15 {
		nest := strings.Repeat("(", n) + strings.Repeat(")", n)
		for _, before := range []string{"", "e", "b", "()", "(())", "(((())))"} {
			for _, behind := range []string{"", "e", "()", "?", ")", "("} {
				letters := before + nest + behind
				if len(letters) > impl.MaxItems {
					continue
				}
				fault := checkDocumentOf(t, letterText(letters))
				if n > impl.MaxNest && fault != len(before)+impl.MaxNest {
					t.Errorf("%s has the fault %d", letters, fault)
				}
				if n <= impl.MaxNest && (behind == "" || behind == "e" || behind == "()") && fault != -1 {
					t.Errorf("%s has the fault %d", letters, fault)
				}
			}
		}
		// More than MaxNest may be there, but not open.
		if n > 0 && n <= impl.MaxItems/2 {
			checkFaults(t, -1, letterText(strings.Repeat("()", n)))
		}
	}
	for _, inner := range []string{"e", "b", "n", "ebn"} {
		checkFaults(t, -1, letterText("(((("+inner+"))))"))
		checkFaults(t, 4+len(inner), letterText("(((("+inner+"("), letterText("(((("+inner+"()))))"))
	}
}

// If a block is not closed, the number is that of all lines.
func TestBlocksThatAreNotClosed(t *testing.T) {
	for _, list := range validDocuments(126, 600) {
		letters := lettersOf(list)
		for at := range letters {
			// Without a line that closes a block, and without all lines behind a place.
			if letters[at] == ')' {
				left := letters[:at] + letters[at+1:]
				if mostOpenOf(left) <= impl.MaxNest {
					checkFaults(t, len(left), letterText(left))
				}
			}
			prefix := letters[:at]
			want := -1
			if strings.Count(prefix, "(") > strings.Count(prefix, ")") {
				want = len(prefix)
			}
			checkFaults(t, want, letterText(prefix))
		}
		if mostOpenOf("("+letters) <= impl.MaxNest && len(letters) < impl.MaxItems {
			checkFaults(t, len(letters)+1, letterText("("+letters), letterText(letters+"("))
		}
	}
}

// mostOpenOf returns how many blocks are open at the deepest place.
func mostOpenOf(letters string) int {
	return mostOpen(itemsOf(letters))
}

// The line behind MaxItems lines is told, whatever it is.
func TestNumbersOfLines(t *testing.T) {
	for n := range 45 {
		for _, letter := range []string{"b", "n", "e", "()", "(e)b"} {
			letters := strings.Repeat(letter, n)
			want := -1
			if len(letters) > 30 {
				want = 30
			}
			checkFaults(t, want, letterText(letters))
		}
	}
	for _, full := range []string{strings.Repeat("e", 30), strings.Repeat("b", 30), strings.Repeat("()", 15), "((((" + strings.Repeat("n", 22) + "))))"} {
		s := letterText(full)
		checkFaults(t, -1, s)
		for _, behind := range []string{"", " ", "a = 1", "# x", "q {", "}", "?", "a =", "x\ny", "}\n}", "q {\n}", "q {\nr {"} {
			checkFaults(t, 30, s+behind+"\n", s+behind+"\n\n")
			if behind != "" {
				checkFaults(t, 30, s+behind)
			}
		}
		// What is wrong before it is told first, and what is not closed is not.
		for at := range 30 {
			lines := letterLines(full)
			lines[at] = "?"
			checkFaults(t, at, textOfLines(lines)+"a = 1\n", textOfLines(lines)+"?\n", textOfLines(lines))
		}
	}
	for open := 1; open <= impl.MaxNest; open++ {
		blocks := strings.Repeat("(", open)
		for _, letter := range []string{"e", "b", "n"} {
			full := blocks + strings.Repeat(letter, 30-open)
			checkFaults(t, 30, letterText(full), letterText(full+"e"), letterText(full+")"), letterText(full+strings.Repeat(")", open)), letterText(full+"("), letterText(full+"?"))
			checkFaults(t, 30, letterText(strings.Repeat(letter, 30-open)+blocks), letterText(strings.Repeat(letter, 30-open)+blocks+")"))
			checkFaults(t, -1, letterText(full[:30-open]+strings.Repeat(")", open)))
			checkFaults(t, 29, letterText(full[:29]))
		}
	}
	checkFaults(t, 29, letterText(strings.Repeat("e", 29)+")"), letterText(strings.Repeat("e", 29)+"?"), letterText(strings.Repeat("e", 29)+")e"), letterText(strings.Repeat("e", 25)+"(((("+"("))
	checkFaults(t, 30, letterText(strings.Repeat("e", 29)+"("), letterText(strings.Repeat("e", 30)+")"), letterText(strings.Repeat("e", 26)+"(((("+"("))
}

// With lines that are left out, put in or exchanged a document is read as its lines tell.
func TestChangedTextsOfDocuments(t *testing.T) {
	r := rand.New(rand.NewSource(127))
	documents, faults := 0, 0
	for _, list := range validDocuments(128, 4000) {
		lines := randomLines(r, list)
		for range 1 + r.Intn(3) {
			at := r.Intn(len(lines) + 1)
			more := randomLine(r, itemOf(itemLetters[1+r.Intn(5)], r.Intn(100)))
			if r.Intn(6) == 0 {
				more = wrongLines()[r.Intn(len(wrongLines()))]
			}
			switch {
			case at == len(lines) || r.Intn(3) == 0:
				lines = inserted(lines, at, more)
			case r.Intn(2) == 0:
				lines = slices.Delete(slices.Clone(lines), at, at+1)
			default:
				lines = slices.Clone(lines)
				lines[at] = more
			}
		}
		if checkDocumentOf(t, textOfLines(lines)) < 0 {
			documents++
		} else {
			faults++
		}
	}
	if documents < 500 || faults < 500 {
		t.Errorf("%d changed texts are documents and %d are none", documents, faults)
	}
}

// Documents share no memory with each other, and their items none among themselves.
func TestReadDocumentsAreNew(t *testing.T) {
	for _, list := range validDocuments(129, 300) {
		s := textOfLines(usualLines(list))
		first, _ := impl.ReadDocument(s)
		second, _ := impl.ReadDocument(s)
		spoilItems(first)
		if !sameItems(second, list) {
			t.Fatalf("%s became %s", shortly(list), shortly(second))
		}
		for k := range second {
			cells := second[k].Expr[:cap(second[k].Expr)]
			for at := range cells {
				cells[at] = impl.Cell{Kind: 10}
			}
			second[k].Expr = slices.Clone(list[k].Expr)
			if !sameItems(second, list) {
				t.Fatalf("the expressions of %s share memory", shortly(list))
			}
		}
		checkDocumentOf(t, s)
	}
}
