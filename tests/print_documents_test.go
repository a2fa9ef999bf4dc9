package tests

import (
	"math/rand"
	"slices"
	"strings"
	"testing"

	"loop.example/configformatter/impl"
)

// checkNotPrinted looks that items have no text.
func checkNotPrinted(t *testing.T, list []impl.Item) {
	t.Helper()
	if s, ok := impl.PrintDocument(list); s != "" || ok {
		t.Fatalf("%d items %s have the text %.300q, %v", len(list), lettersOf(list), s, ok)
	}
}

func TestDocumentsArePrintedByHand(t *testing.T) {
	cases := [][2]string{
		{"", ""}, {"b", "\n"}, {"bb", "\n\n"}, {"n", "# note 0\n"}, {"e", "e0 = 0 # entry 0\n"}, {"()", "q0 {\n}\n"},
		{"beb", "\ne1 = 1 # entry 1\n\n"}, {"ebbn", "e0 = 0 # entry 0\n\n\n# note 3\n"}, {"b()b", "\nq1 {\n}\n\n"}, {"()()", "q0 {\n}\nq2 {\n}\n"},
		{"(b)", "q0 {\n\n}\n"}, {"(n)", "q0 {\n  # note 1\n}\n"}, {"(e)", "q0 {\n  e1 = 1 # entry 1\n}\n"}, {"(())", "q0 {\n  q1 {\n  }\n}\n"}, {"(bb)e", "q0 {\n\n\n}\ne4 = 4 # entry 4\n"},
		{"((b)b)b", "q0 {\n  q1 {\n\n  }\n\n}\n\n"}, {"e(n(e)b)n", "e0 = 0 # entry 0\nq1 {\n  # note 2\n  q3 {\n    e4 = 4 # entry 4\n  }\n\n}\n# note 8\n"},
		{"(((())))", "q0 {\n  q1 {\n    q2 {\n      q3 {\n      }\n    }\n  }\n}\n"},
		{"((((b))))", "q0 {\n  q1 {\n    q2 {\n      q3 {\n\n      }\n    }\n  }\n}\n"}, {"((((ebn))))", "q0 {\n  q1 {\n    q2 {\n      q3 {\n        e4 = 4 # entry 4\n\n        # note 6\n      }\n    }\n  }\n}\n"},
	}
	for _, c := range cases {
		list := distinctItems(c[0])
		if s, ok := impl.PrintDocument(list); s != c[1] || !ok {
			t.Errorf("the text of %s is %q, %v, and not %q", c[0], s, ok, c[1])
		}
		checkPrinted(t, list)
		checkLinesOfText(t, list)
	}
}

func TestDocumentsWithoutItems(t *testing.T) {
	for _, list := range [][]impl.Item{nil, {}, itemsOf("e")[:0], invalidItems()[:0]} {
		if s, ok := impl.PrintDocument(list); s != "" || !ok {
			t.Errorf("without items there is the text %q, %v", s, ok)
		}
		checkPrinted(t, list)
	}
	for _, s := range []string{"", "\n", "\n\n\n", " ", "   \n \n ", strings.Repeat("\n", impl.MaxItems), strings.Repeat(" ", impl.MaxText), strings.Repeat(" ", impl.MaxText-1) + "\n"} {
		checkFormattedAs(t, s, "")
	}
}

func TestSmallDocumentsArePrinted(t *testing.T) {
	printed, others := 0, 0
	for _, letters := range slices.Concat(textsUpTo(7, "be()"), textsUpTo(5, "bne()"), textsUpTo(5, "?e()"), textsUpTo(11, "()")) {
		if checkPrinted(t, distinctItems(letters)) {
			printed++
		} else {
			others++
		}
	}
	if printed < 1000 || others < 10000 {
		t.Errorf("%d small documents are printed, and %d are none", printed, others)
	}
}

func TestItemsThatAreNoDocumentAreNotPrinted(t *testing.T) {
	for _, letters := range []string{
		"(", ")", ")(", "((", "))", "(()", "())", ")()", "()(", "(e", "e)", "e(", ")e", "(b", "b)", "(e(e)", "(e)e)", "((((()))))", "e((((()))))", "((((()))))e", "((((e(e)e))))", "((((", "))))", "?", "?e", "e?", "(?)",
		strings.Repeat("e", impl.MaxItems+1), strings.Repeat("b", impl.MaxItems+1), strings.Repeat("n", impl.MaxItems+1), strings.Repeat("()", impl.MaxItems/2) + "b", "(" + strings.Repeat("e", impl.MaxItems-1) + ")", strings.Repeat("b", 50000),
	} {
		checkNotPrinted(t, itemsOf(letters))
		checkNotPrinted(t, distinctItems(letters))
	}
	bad := invalidItems()
	for k, letters := range []string{"", "e", "()", "(e)", "ebe", "(e(n)e)b", "((((e))))", strings.Repeat("e", impl.MaxItems-1)} {
		list := distinctItems(letters)
		for at := range len(list) + 1 {
			for n, i := range bad {
				if (n+at+k)%3 == 0 {
					checkNotPrinted(t, slices.Insert(slices.Clone(list), at, i))
				}
				if at < len(list) {
					other := slices.Clone(list)
					other[at] = i
					checkPrinted(t, other)
				}
			}
		}
	}
}

// A blank item has an empty line wherever it stands, also inside of blocks, and no other line changes.
func TestBlankItemsArePrinted(t *testing.T) {
	inside := 0
	for _, list := range validDocuments(130, 600) {
		before, _ := impl.PrintDocument(list)
		lines := impl.LinesOf(before)
		for at := range len(list) + 1 {
			items := slices.Insert(slices.Clone(list), at, impl.Item{Kind: impl.ItemBlank})
			got, ok := impl.PrintDocument(items)
			if len(items) > impl.MaxItems {
				if ok {
					t.Errorf("%d items have a text", len(items))
				}
				continue
			}
			if want := textOfLines(inserted(lines, at, "")); got != want || !ok {
				t.Fatalf("with a blank item at %d the text %.300q becomes %.300q, %v", at, before, got, ok)
			}
			if impl.DepthsOf(items)[at] > 0 {
				inside++
			}
		}
	}
	if inside < 1000 {
		t.Errorf("only %d blank items are in blocks", inside)
	}
}

// Every block more around a document puts two spaces before all its lines, but for those of blank items.
func TestBlocksAroundDocuments(t *testing.T) {
	for _, list := range validDocuments(131, 1000) {
		s, _ := impl.PrintDocument(list)
		for open := range impl.MaxNest + 2 {
			if open > 0 {
				list = slices.Concat([]impl.Item{{Kind: impl.ItemOpen, Name: "q"}}, list, []impl.Item{{Kind: impl.ItemClose}})
				var lines []string
				for _, line := range impl.LinesOf(s) {
					lines = append(lines, strings.TrimRight("  "+line, " "))
				}
				s = "q {\n" + textOfLines(lines) + "}\n"
			}
			if mostOpen(list) > impl.MaxNest || len(list) > impl.MaxItems {
				checkNotPrinted(t, list)
				break
			}
			if got, ok := impl.PrintDocument(list); got != s || !ok {
				t.Fatalf("%s in %d blocks has the text %.300q, %v, and not %.300q", lettersOf(list), open, got, ok, s)
			}
		}
	}
}

// Promise 4: printed documents can be read.
func TestPrintedDocumentsCanBeRead(t *testing.T) {
	deep, long := 0, 0
	for _, list := range validDocuments(4, 4000) {
		if !checkPrinted(t, list) {
			t.Fatalf("%s has no text", lettersOf(list))
		}
		checkLinesOfText(t, list)
		if mostOpen(list) == impl.MaxNest {
			deep++
		}
		if len(list) == impl.MaxItems {
			long++
		}
	}
	if deep < 100 || long < 100 {
		t.Errorf("%d documents are deep and %d are long", deep, long)
	}
}

// Promise 4, for entries with every expression, in blocks and outside of them.
func TestPrintedExpressionsOfDocumentsCanBeRead(t *testing.T) {
	r := rand.New(rand.NewSource(132))
	exprs := slices.Concat(validExprs(), limitExprs())
	large := 0
	for from := 0; from < len(exprs); from += 12 {
		list := itemsOf(randomLetters(r, 12+r.Intn(10), impl.MaxNest, "eeeeebn()"))
		for k := range list {
			if list[k].Kind == impl.ItemEntry {
				list[k].Expr = exprs[min(from+k%12, len(exprs)-1)]
			}
		}
		if !checkPrinted(t, list) {
			large++
			continue
		}
		checkLinesOfText(t, list)
	}
	if large > 10 {
		t.Errorf("%d documents are too large", large)
	}
}

// A document with a text of MaxText bytes has it, and one that needs more has none.
func TestLengthsOfPrintedDocuments(t *testing.T) {
	for blocks := range impl.MaxNest + 1 {
		for n := impl.MaxText - 3; n <= impl.MaxText+3; n++ {
			list := documentOfBytes(n, blocks)
			if !impl.DocumentValid(list) {
				t.Fatalf("%s should be a document", lettersOf(list))
			}
			if checkPrinted(t, list) != (n <= impl.MaxText) {
				t.Errorf("a document of %d bytes has a text, or not", n)
			}
			s, _ := impl.PrintDocument(list)
			if n <= impl.MaxText && len(s) != n {
				t.Errorf("the text of a document of %d bytes has %d", n, len(s))
			}
			// Every further item counts, also a blank one.
			for _, letter := range []byte("bn") {
				more := append(slices.Clone(list), itemOf(letter, 0))
				if checkPrinted(t, more) != (n+len(expectedItemLine(more[len(list)], 0))+1 <= impl.MaxText) {
					t.Errorf("with one more %c a document of %d bytes has a text, or not", letter, n)
				}
			}
		}
	}
	for _, list := range longest() {
		large := impl.Item{Kind: impl.ItemEntry, Name: "a", Expr: list}
		for n := range impl.MaxItems + 2 {
			bytes := n * len(expectedItemLine(large, 0)+"\n")
			if checkPrinted(t, slices.Repeat([]impl.Item{large}, n)) != (bytes <= impl.MaxText && n <= impl.MaxItems) {
				t.Errorf("%d large entries of %d bytes have a text, or not", n, bytes)
			}
		}
	}
}

// Promise 3: read documents can be printed.
func TestReadDocumentsCanBePrinted(t *testing.T) {
	r := rand.New(rand.NewSource(133))
	documents, faults := 0, 0
	look := func(s string) {
		t.Helper()
		list, fault := impl.ReadDocument(s)
		if fault >= 0 {
			faults++
			lines := impl.LinesOf(s)
			for k := range fault {
				i, ok := impl.ReadItem(lines[k])
				if !ok || !expectedItem(i) {
					t.Fatalf("%.300q has the fault %d, but the line %d is no item", s, fault, k)
				}
			}
			return
		}
		documents++
		if !checkPrinted(t, list) {
			t.Fatalf("%.300q has no text", s)
		}
	}
	wrong := wrongLines()
	for k, list := range validDocuments(134, 2000) {
		look(textOfLines(randomLines(r, list)))
		look(tightText(list))
		lines := inserted(randomLines(r, list), r.Intn(len(list)+1), wrong[k%len(wrong)])
		look(textOfLines(lines))
		look(textOfLines(inserted(lines[:len(lines)-1], r.Intn(len(list)+1), "}")))
	}
	for _, s := range slices.Concat(textsUpTo(6, "q{}\n# "), textsUpTo(6, "a=1\n"), smallTexts(), invalidTexts()) {
		look(s)
	}
	if documents < 3000 || faults < 3000 {
		t.Errorf("%d texts are documents and %d are none", documents, faults)
	}
}

// Promise 3 speaks of documents that can be printed: one that is read from a text with few spaces may need more room than there is.
func TestReadDocumentsThatHaveNoRoom(t *testing.T) {
	for blocks := range impl.MaxNest + 1 {
		for n := impl.MaxText - 2; n <= impl.MaxText+2; n++ {
			want := documentOfBytes(n, blocks)
			list, fault := impl.ReadDocument(tightText(want))
			if !sameItems(list, want) || fault != -1 {
				t.Fatalf("a document of %d bytes is read as %s, %d", n, lettersOf(list), fault)
			}
			if checkPrinted(t, list) != (n <= impl.MaxText) {
				t.Errorf("a document of %d bytes has a text, or not", n)
			}
		}
	}
}

// Nothing is written to items, or behind their end, and what stands there is not printed.
func TestPrintedItemsStay(t *testing.T) {
	for _, list := range validDocuments(135, 400) {
		roomy := roomyItems(list)
		s, _ := impl.PrintDocument(roomy)
		if !sameItems(roomy, list) {
			t.Fatalf("%s became %s", shortly(list), shortly(roomy))
		}
		checkRoom(t, roomy)
		spoilItems(roomy)
		if want, _ := expectedPrinted(list); s != want {
			t.Fatalf("the text of %s became %.300q", shortly(list), s)
		}
		room := slices.Concat(list, itemsOf("bb(e"), invalidItems()[:2])
		for n := range len(room) + 1 {
			checkPrinted(t, room[:n])
		}
	}
	// The same memory may be the expression of several items.
	cells := written("[1, 2]")
	list := []impl.Item{{Kind: 3, Name: "a", Expr: cells}, {Kind: 3, Name: "b", Expr: cells}, {Kind: 3, Name: "c", Expr: cells[1:2]}, {Kind: 1, Expr: cells[:0]}, {Kind: 2, Expr: cells[:0]}}
	if s, ok := impl.PrintDocument(list); s != "a = [1, 2]\nb = [1, 2]\nc = 1\n\n#\n" || !ok {
		t.Errorf("the text is %q, %v", s, ok)
	}
	checkPrinted(t, list)
}
