package tests

import (
	"math"
	"slices"
	"strings"
	"testing"

	"loop.example/configformatter/impl"
)

// expectedItemLine returns the line of an item at a depth.
func expectedItemLine(i impl.Item, deep int) string {
	if !expectedItem(i) || deep < 0 || deep > 4 {
		return ""
	}
	// Of a blank item nothing remains, and no other line ends with a space.
	return strings.TrimRight(strings.Repeat("  ", deep)+usualLine(i), " ")
}

// expectedPrinted returns the text of a document.
func expectedPrinted(list []impl.Item) (string, bool) {
	if !expectedDocument(list) {
		return "", false
	}
	var lines []string
	for k, deep := range expectedDepths(list) {
		lines = append(lines, expectedItemLine(list[k], deep))
	}
	s := textOfLines(lines)
	if len(s) > 20000 {
		return "", false
	}
	return s, true
}

// expectedTidyItems returns a document when it is tidy.
func expectedTidyItems(list []impl.Item) []impl.Item {
	others := notBlank(list)
	var tidy []impl.Item
	for _, letter := range expectedTidy(lettersOf(list)) {
		if letter == 'b' {
			tidy = append(tidy, impl.Item{Kind: impl.ItemBlank})
			continue
		}
		tidy, others = append(tidy, others[0]), others[1:]
	}
	return tidy
}

// expectedFormatted returns the text of the tidy document that a text stands for.
func expectedFormatted(s string) (string, bool) {
	list, fault := expectedDocumentOf(s)
	if fault >= 0 {
		return "", false
	}
	return expectedPrinted(expectedTidyItems(list))
}

// noDepths are numbers at which no item has a line.
func noDepths() []int {
	return []int{-1, impl.MaxNest + 1, -2, impl.MaxNest + 2, 30, 256, 1 << 32, 1<<32 + 1, -1 << 32, math.MinInt, math.MaxInt}
}

// checkItemLines compares the lines of an item at all depths with what is expected, and looks that it has none at others, and that it stays. It returns whether the item is valid.
func checkItemLines(t *testing.T, i impl.Item) bool {
	t.Helper()
	before := slices.Clone(i.Expr)
	for deep := range impl.MaxNest + 1 {
		want := expectedItemLine(i, deep)
		if got := impl.ItemLine(i, deep); got != want {
			t.Fatalf("at %d the line of %.300q of the kind %d is %.300q and not %.300q", deep, described(i), i.Kind, got, want)
		}
	}
	for _, deep := range noDepths() {
		if got := impl.ItemLine(i, deep); got != "" {
			t.Fatalf("at %d the line of %.300q is %.300q", deep, described(i), got)
		}
	}
	if !slices.Equal(i.Expr, before) {
		t.Fatalf("the expression %s became %s", shortly(before), shortly(i.Expr))
	}
	return expectedItem(i)
}

// checkReadBack looks whether the lines of a valid item are read as the item, also with spaces around them, and whether another depth only has other spaces.
func checkReadBack(t *testing.T, i impl.Item) {
	t.Helper()
	first := impl.ItemLine(i, 0)
	if strings.Trim(first, " ") != first || strings.Contains(first, "\n") {
		t.Fatalf("the line of %.300q is %.300q", described(i), first)
	}
	for deep := range impl.MaxNest + 1 {
		line, spaces := impl.ItemLine(i, deep), strings.Repeat("  ", deep)
		if i.Kind == impl.ItemBlank {
			spaces = ""
		}
		if line != spaces+first {
			t.Fatalf("at %d the line of %.300q is %.300q, and at 0 %.300q", deep, described(i), line, first)
		}
		for _, around := range []string{line, " " + line, line + " ", "     " + line + "   "} {
			checkRead(t, around, i)
		}
	}
}

// checkPrinted compares the text of items with what is expected, looks whether it has a line for every item and is read back, and whether the items stay. It returns whether they have a text.
func checkPrinted(t *testing.T, list []impl.Item) bool {
	t.Helper()
	before := clonedItems(list)
	want, fits := expectedPrinted(list)
	got, ok := impl.PrintDocument(list)
	if got != want || ok != fits {
		t.Fatalf("the text of %d items %s is %.500q, %v, and not %.500q", len(list), shortly(list), got, ok, want)
	}
	if !sameItems(list, before) {
		t.Fatalf("%s became %s", shortly(before), shortly(list))
	}
	if !ok {
		return false
	}
	back, fault := impl.ReadDocument(got)
	if !sameItems(back, list) || fault != -1 {
		t.Fatalf("%.500q is read as %s, %d", got, shortly(back), fault)
	}
	if lines := impl.LinesOf(got); len(lines) != len(list) || strings.Count(got, "\n") != len(list) {
		t.Fatalf("%d items have %d lines: %.500q", len(list), len(lines), got)
	}
	return true
}

// checkLinesOfText looks whether the lines of a printed document are those of its items at their depths.
func checkLinesOfText(t *testing.T, list []impl.Item) {
	t.Helper()
	s, _ := impl.PrintDocument(list)
	lines, depths := impl.LinesOf(s), impl.DepthsOf(list)
	for k, i := range list {
		if line := impl.ItemLine(i, depths[k]); line != lines[k] {
			t.Fatalf("the line %d of %.500q should be %.300q", k, s, line)
		}
		checkRead(t, lines[k], i)
	}
}

// checkFormattedAs looks whether a text is formatted as another one, and that one as itself.
func checkFormattedAs(t *testing.T, s string, want string) {
	t.Helper()
	for _, text := range []string{s, want} {
		if got, ok := impl.FormatDocument(text); got != want || !ok {
			t.Fatalf("%.500q of %d bytes is formatted as %.500q, %v, and not as %.500q", text, len(text), got, ok, want)
		}
	}
}

// checkNotFormatted looks that texts cannot be formatted.
func checkNotFormatted(t *testing.T, texts ...string) {
	t.Helper()
	for _, s := range texts {
		if got, ok := impl.FormatDocument(s); got != "" || ok {
			t.Fatalf("%.500q of %d bytes is formatted as %.500q, %v", s, len(s), got, ok)
		}
	}
}

// checkFormatted compares how a text is formatted with what is expected, and looks whether formatting again changes nothing, and the result stands for the tidy document. It returns whether it can be formatted.
func checkFormatted(t *testing.T, s string) bool {
	t.Helper()
	want, ok := expectedFormatted(s)
	if !ok {
		checkNotFormatted(t, s)
		return false
	}
	checkFormattedAs(t, s, want)
	list, _ := impl.ReadDocument(s)
	tidy, fault := impl.ReadDocument(want)
	if !sameItems(tidy, impl.TidyItems(list)) || fault != -1 {
		t.Fatalf("%.500q is formatted as %.500q, which stands for %s, %d", s, want, lettersOf(tidy), fault)
	}
	return true
}

// exprOfBytes returns a list of texts whose text has so many bytes, 4 to 992.
func exprOfBytes(n int) []impl.Cell {
	// Every text has at most 122 bytes, and every one but the last one a comma and a space behind it.
	many := (n + 123) / 124
	left := n - 4*many
	var parts [][]impl.Cell
	for range many {
		inside := min(left, 2*impl.MaxWord)
		special := max(0, inside-impl.MaxWord)
		parts = append(parts, leaf(impl.CellText, strings.Repeat("\"", special)+strings.Repeat("#", inside-2*special)))
		left -= inside
	}
	return tree(impl.CellList, "", parts...)
}

// documentOfBytes returns a document whose text has so many bytes, with all entries in so many blocks.
func documentOfBytes(n int, blocks int) []impl.Item {
	var list []impl.Item
	for deep := range blocks {
		list = append(list, impl.Item{Kind: impl.ItemOpen, Name: "q"})
		n -= 2*(2*deep) + len("q {\n}\n")
	}
	// What stands around the expression of an entry.
	around := 2*blocks + len("a = \n")
	for n > 0 {
		bytes := min(n, around+992)
		// The next entry needs at least an expression of 4 bytes.
		if left := n - bytes; left > 0 && left < around+4 {
			bytes -= around + 4
		}
		list = append(list, impl.Item{Kind: impl.ItemEntry, Name: "a", Expr: exprOfBytes(bytes - around)})
		n -= bytes
	}
	for range blocks {
		list = append(list, impl.Item{Kind: impl.ItemClose})
	}
	return list
}

// tightText writes items with as few spaces as they need.
func tightText(list []impl.Item) string {
	var lines []string
	for _, i := range list {
		expr := ""
		if i.Kind == impl.ItemEntry {
			expr = spacings(plainWords(i.Expr))[2]
		}
		lines = append(lines, lineOf(i, expr, gaps{}, false))
	}
	return textOfLines(lines)
}

// blanks returns so many blank items.
func blanks(n int) []impl.Item {
	return slices.Repeat([]impl.Item{{Kind: impl.ItemBlank}}, n)
}
