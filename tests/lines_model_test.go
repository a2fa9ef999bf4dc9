package tests

import (
	"math/rand"
	"regexp"
	"slices"
	"strings"
	"testing"

	"loop.example/configformatter/impl"
)

// The patterns of lines without spaces at their ends; the groups are the name, the expression and the note.
var (
	openLine  = regexp.MustCompile(`\A([a-z0-9_]+) *\{\z`)
	noteLine  = regexp.MustCompile(`(?s)\A# *(.*)\z`)
	entryLine = regexp.MustCompile(`(?s)\A([a-z0-9_]+) *=((?:[^"#]|"(?:[^"\\]|\\.)*")*)(?:# *(.*))?\z`)
)

// expectedLine returns the item that a line stands for by patterns, and not byte by byte.
func expectedLine(line string) (impl.Item, bool) {
	line = strings.Trim(line, " ")
	var i impl.Item
	if line == "" {
		i = impl.Item{Kind: impl.ItemBlank}
	} else if line == "}" {
		i = impl.Item{Kind: impl.ItemClose}
	} else if found := noteLine.FindStringSubmatch(line); found != nil {
		i = impl.Item{Kind: impl.ItemNote, Note: found[1]}
	} else if found := openLine.FindStringSubmatch(line); found != nil {
		i = impl.Item{Kind: impl.ItemOpen, Name: found[1]}
	} else if found := entryLine.FindStringSubmatch(line); found != nil {
		i = impl.Item{Kind: impl.ItemEntry, Name: found[1], Expr: expectedExpr(found[2]), Note: found[3]}
	}
	if !expectedItem(i) {
		return impl.Item{}, false
	}
	return i, true
}

// expectedLines returns the lines of a valid text.
func expectedLines(s string) []string {
	lines := strings.Split(s, "\n")
	if last := len(lines) - 1; lines[last] == "" {
		lines = lines[:last]
	}
	return lines
}

// expectedDocumentOf returns the document that a text stands for and -1, or nil and the number of its fault.
func expectedDocumentOf(s string) ([]impl.Item, int) {
	if len(s) > 20000 || !plainPattern.MatchString(s) {
		return nil, 0
	}
	lines, letters, list := expectedLines(s), "", []impl.Item(nil)
	open := 0
	for k, line := range lines {
		i, ok := expectedLine(line)
		letters += lettersOf([]impl.Item{i})
		open = strings.Count(letters, "(") - strings.Count(letters, ")")
		if !ok || open < 0 || open > 4 || k >= 30 {
			return nil, k
		}
		list = append(list, i)
	}
	if open != 0 {
		return nil, len(lines)
	}
	return list, -1
}

// described writes an item for tests by hand: like its line, but with the shape of its expression; nothing for the zero value.
func described(i impl.Item) string {
	switch i.Kind {
	case impl.ItemBlank:
		return "blank"
	case impl.ItemNote:
		return "#" + i.Note
	case impl.ItemEntry:
		if i.Note != "" {
			return i.Name + "=" + shape(i.Expr) + " #" + i.Note
		}
		return i.Name + "=" + shape(i.Expr)
	case impl.ItemOpen:
		return i.Name + "{"
	case impl.ItemClose:
		return "}"
	}
	return ""
}

// isZero reports whether an item is the zero value.
func isZero(i impl.Item) bool {
	return sameItem(i, impl.Item{})
}

// checkRead compares what ReadItem returns for a line with an item; the line stands for none if the item is the zero value.
func checkRead(t *testing.T, line string, want impl.Item) {
	t.Helper()
	got, ok := impl.ReadItem(line)
	if !sameItem(got, want) || ok == isZero(want) {
		t.Fatalf("ReadItem(%.200q) of %d bytes is %.300q, %v, and not %.300q", line, len(line), described(got), ok, described(want))
	}
}

// checkLine compares what ReadItem returns for a line with what is expected, also with spaces at its ends. It returns whether the line stands for an item.
func checkLine(t *testing.T, line string) bool {
	t.Helper()
	want, ok := expectedLine(line)
	for _, s := range []string{line, " " + line, line + " ", "   " + line + "  "} {
		checkRead(t, s, want)
	}
	return ok
}

// checkLines compares the items of lines with those that are described; a line that is described as "" stands for none.
func checkLines(t *testing.T, cases [][2]string) {
	t.Helper()
	for _, c := range cases {
		for _, before := range []string{"", " ", "    "} {
			for _, behind := range []string{"", " ", "   "} {
				line := before + c[0] + behind
				i, ok := impl.ReadItem(line)
				if got := described(i); got != c[1] || ok != (c[1] != "") || !ok && !isZero(i) {
					t.Errorf("ReadItem(%q) is %q, %v, and not %q", line, got, ok, c[1])
				}
			}
		}
		// The model of the other tests is looked at here, too.
		if i, _ := expectedLine(c[0]); described(i) != c[1] {
			t.Errorf("%q should be %q and not %q", c[0], c[1], described(i))
		}
	}
}

// checkNoItems looks that lines stand for no item.
func checkNoItems(t *testing.T, lines ...string) {
	t.Helper()
	for _, line := range lines {
		checkLines(t, [][2]string{{line, ""}})
	}
}

// checkDocumentOf compares what ReadDocument returns for a text with what is expected, and looks at the items and lines themselves. It returns the number.
func checkDocumentOf(t *testing.T, s string) int {
	t.Helper()
	want, wantFault := expectedDocumentOf(s)
	got, fault := impl.ReadDocument(s)
	if !sameItems(got, want) || fault != wantFault {
		t.Fatalf("ReadDocument(%.300q) of %d bytes is %s, %d, and not %s, %d", s, len(s), lettersOf(got), fault, lettersOf(want), wantFault)
	}
	lines := impl.LinesOf(s)
	if fault < 0 && (len(got) != len(lines) || !impl.DocumentValid(got)) {
		t.Fatalf("%.300q with %d lines is read as %s", s, len(lines), lettersOf(got))
	}
	for k, line := range lines[:max(fault, 0)] {
		if _, ok := impl.ReadItem(line); !ok {
			t.Fatalf("%.300q has the fault %d, but the line %d is no item", s, fault, k)
		}
	}
	return fault
}

// checkFaults compares the numbers of texts; -1 stands for a document.
func checkFaults(t *testing.T, want int, texts ...string) {
	t.Helper()
	for _, s := range texts {
		if got := checkDocumentOf(t, s); got != want {
			t.Errorf("ReadDocument(%.300q) returns %d and not %d", s, got, want)
		}
	}
}

// gaps are the spaces between the parts of a line: before and behind the = (or before the {), and before and behind the #.
type gaps [4]string

// lineOf writes an item with an expression that is already written, and with these gaps; an empty note of an entry is written if noted.
func lineOf(i impl.Item, expr string, g gaps, noted bool) string {
	note := "#" + g[3] + i.Note
	switch i.Kind {
	case impl.ItemNote:
		return note
	case impl.ItemEntry:
		line := i.Name + g[0] + "=" + g[1] + expr
		if noted || i.Note != "" {
			line += g[2] + note
		}
		return line
	case impl.ItemOpen:
		return i.Name + g[0] + "{"
	case impl.ItemClose:
		return "}"
	}
	return ""
}

// usualLine writes an item in the usual way.
func usualLine(i impl.Item) string {
	return strings.TrimRight(lineOf(i, expectedText(i.Expr), gaps{" ", " ", " ", " "}, false), " ")
}

// randomLine writes an item in any way in which it is read back.
func randomLine(r *rand.Rand, i impl.Item) string {
	space := func() string { return strings.Repeat(" ", max(0, r.Intn(6)-2)) }
	expr := ""
	if i.Kind == impl.ItemEntry {
		list := spacings(randomWords(r, i.Expr))
		expr = list[r.Intn(len(list))]
	}
	return space() + lineOf(i, expr, gaps{space(), space(), space(), space()}, r.Intn(3) == 0) + space()
}

// usualLines writes items in the usual way.
func usualLines(list []impl.Item) []string {
	var lines []string
	for _, i := range list {
		lines = append(lines, usualLine(i))
	}
	return lines
}

// randomLines writes items in any way.
func randomLines(r *rand.Rand, list []impl.Item) []string {
	var lines []string
	for _, i := range list {
		lines = append(lines, randomLine(r, i))
	}
	return lines
}

// textOfLines returns the text of lines, with a line end behind every one.
func textOfLines(lines []string) string {
	s := ""
	for _, line := range lines {
		s += line + "\n"
	}
	return s
}

// wrongLines are lines that stand for no item, for every reason.
func wrongLines() []string {
	return []string{
		"a", "a =", "a = # x", "= 1", "{", "a == 1", "a = b = 1", "a.b = 1", "A = 1", "true = 1", "1 = a", "a = 1 +", `a = "x`, `a = "x # y`, "a = 'x'", "a = 1;", "nnnnnnnnnnnnn = 1",
		"q { # x", "q {}", "q }", "} x", "}}", "q.r {", "false {", "Q {", "q { a = 1 }", "# " + strings.Repeat("x", 61), "a = 1 # " + strings.Repeat("x", 61), "a = " + strings.Repeat("!", 12) + "b", "a - 1", "?", "a: 1",
	}
}

// letterLines writes a line for every letter: a wrong one for ?, and the same ones for all others.
func letterLines(letters string) []string {
	lines := map[rune]string{'b': "", 'n': "# x", 'e': "a = 1", '(': "q {", ')': "}", '?': "?"}
	var list []string
	for _, letter := range letters {
		list = append(list, lines[letter])
	}
	return list
}

// letterText returns the text of letterLines.
func letterText(letters string) string {
	return textOfLines(letterLines(letters))
}

// inserted returns lines with more of them at a place.
func inserted(lines []string, at int, more ...string) []string {
	return slices.Insert(slices.Clone(lines), at, more...)
}
