package tests

import (
	"slices"
	"strings"
	"testing"

	"loop.example/configformatter/impl"
)

// alignedCase is a document as a text, with what it should have.
type alignedCase struct {
	text    string
	widths  []int
	aligned string
	columns []int
}

// checkAlignedByHand compares the widths, the aligned texts and the columns of documents with those that are given.
func checkAlignedByHand(t *testing.T, cases []alignedCase) {
	t.Helper()
	for _, c := range cases {
		list, fault := impl.ReadDocument(c.text)
		if fault != -1 {
			t.Fatalf("%q has the fault %d", c.text, fault)
		}
		if got := impl.AlignWidths(list); !slices.Equal(got, c.widths) {
			t.Errorf("the widths of %q are %v and not %v", c.text, got, c.widths)
		}
		if got, ok := impl.AlignDocument(list); got != c.aligned || !ok {
			t.Errorf("%q is aligned as %q, %v, and not as %q", c.text, got, ok, c.aligned)
		}
		if got := impl.AlignColumns(list); !slices.Equal(got, c.columns) {
			t.Errorf("the columns of %q are %v and not %v", c.text, got, c.columns)
		}
		// The model of the other tests is looked at here, too.
		checkAligned(t, list)
	}
}

func TestEntriesAreAlignedByHand(t *testing.T) {
	checkAlignedByHand(t, []alignedCase{
		{"", nil, "", nil},
		{"a=1", []int{1}, "a = 1\n", []int{2}}, {"port=1", []int{4}, "port = 1\n", []int{5}}, {"nnnnnnnnnnnn = 1", []int{12}, "nnnnnnnnnnnn = 1\n", []int{13}},
		{"a=1\nb=2", []int{1, 1}, "a = 1\nb = 2\n", []int{2, 2}}, {"abc=1\nxyz=2\nuvw=3", []int{3, 3, 3}, "abc = 1\nxyz = 2\nuvw = 3\n", []int{4, 4, 4}},
		// The longest name at the beginning, in the middle, at the end, and twice.
		{"long=1\na=2\nbc=3", []int{4, 4, 4}, "long = 1\na    = 2\nbc   = 3\n", []int{5, 5, 5}}, {"a=1\nlong=2\nbc=3", []int{4, 4, 4}, "a    = 1\nlong = 2\nbc   = 3\n", []int{5, 5, 5}}, {"a=1\nbc=2\nlong=3", []int{4, 4, 4}, "a    = 1\nbc   = 2\nlong = 3\n", []int{5, 5, 5}}, {"long=1\na=2\nlast=3", []int{4, 4, 4}, "long = 1\na    = 2\nlast = 3\n", []int{5, 5, 5}},
		{"a=1\nnnnnnnnnnnnn=2", []int{12, 12}, "a            = 1\nnnnnnnnnnnnn = 2\n", []int{13, 13}}, {"x_1=1\nx=2", []int{3, 3}, "x_1 = 1\nx   = 2\n", []int{4, 4}},
		// Of the aligned text only the names count, and not what stands behind the =.
		{"a=100000\nbc=2", []int{2, 2}, "a  = 100000\nbc = 2\n", []int{3, 3}}, {"a=b==c\nbc=\"=\"", []int{2, 2}, "a  = b == c\nbc = \"=\"\n", []int{3, 3}}, {"a=1#one\nbc=2#= two\nd=3", []int{2, 2, 2}, "a  = 1 # one\nbc = 2 # = two\nd  = 3\n", []int{3, 3, 3}}, {"a=\"a = 1\" # a = 1\nbc=[1,2]", []int{2, 2}, "a  = \"a = 1\" # a = 1\nbc = [1, 2]\n", []int{3, 3}}, {"a=\"a=1\"", []int{1}, "a = \"a=1\"\n", []int{2}},
	})
}

func TestPartedEntriesByHand(t *testing.T) {
	checkAlignedByHand(t, []alignedCase{
		// Each other kind alone.
		{"a=1\n\nlong=2", []int{1, 0, 4}, "a = 1\n\nlong = 2\n", []int{2, -1, 5}}, {"long=1\n\na=2", []int{4, 0, 1}, "long = 1\n\na = 2\n", []int{5, -1, 2}},
		{"a=1\n#\nlong=2", []int{1, 0, 4}, "a = 1\n#\nlong = 2\n", []int{2, -1, 5}}, {"long=1\n#x=1\na=2", []int{4, 0, 1}, "long = 1\n# x=1\na = 2\n", []int{5, -1, 2}},
		{"a=1\nq{\nlong=2\n}", []int{1, 0, 4, 0}, "a = 1\nq {\n  long = 2\n}\n", []int{2, -1, 7, -1}}, {"long=1\nq{\na=2\n}", []int{4, 0, 1, 0}, "long = 1\nq {\n  a = 2\n}\n", []int{5, -1, 4, -1}},
		{"q{\na=1\n}\nlong=2", []int{0, 1, 0, 4}, "q {\n  a = 1\n}\nlong = 2\n", []int{-1, 4, -1, 5}}, {"q{\nlong=1\n}\na=2", []int{0, 4, 0, 1}, "q {\n  long = 1\n}\na = 2\n", []int{-1, 7, -1, 2}},
		// Several of them.
		{"a=1\nbc=2\n\n\nlong=3\nd=4", []int{2, 2, 0, 0, 4, 4}, "a  = 1\nbc = 2\n\n\nlong = 3\nd    = 4\n", []int{3, 3, -1, -1, 5, 5}}, {"a=1\n\n#x\n\nlong=2", []int{1, 0, 0, 0, 4}, "a = 1\n\n# x\n\nlong = 2\n", []int{2, -1, -1, -1, 5}}, {"a=1\nq{\n}\nlong=2", []int{1, 0, 0, 4}, "a = 1\nq {\n}\nlong = 2\n", []int{2, -1, -1, 5}}, {"\na=1\nbc=2\n\n", []int{0, 2, 2, 0}, "\na  = 1\nbc = 2\n\n", []int{-1, 3, 3, -1}},
		{"q{\na=1\n}\nr{\nlong=2\n}", []int{0, 1, 0, 0, 4, 0}, "q {\n  a = 1\n}\nr {\n  long = 2\n}\n", []int{-1, 4, -1, -1, 7, -1}},
		// The names of blocks do not count, and other lines do not change.
		{"a=1\nserver{\nb=2\n}\nc=3", []int{1, 0, 1, 0, 1}, "a = 1\nserver {\n  b = 2\n}\nc = 3\n", []int{2, -1, 4, -1, 2}}, {"server{\n}\na=1", []int{0, 0, 1}, "server {\n}\na = 1\n", []int{-1, -1, 2}}, {"#a long note\na=1", []int{0, 1}, "# a long note\na = 1\n", []int{-1, 2}}, {"a=1\nlong=2\nserver{\n}", []int{4, 4, 0, 0}, "a    = 1\nlong = 2\nserver {\n}\n", []int{5, 5, -1, -1}},
		// No entry at all.
		{"\n\n", []int{0, 0}, "\n\n", []int{-1, -1}}, {"#\n# x = 1", []int{0, 0}, "#\n# x = 1\n", []int{-1, -1}}, {"q{\nr{\n\n}\n}", []int{0, 0, 0, 0, 0}, "q {\n  r {\n\n  }\n}\n", []int{-1, -1, -1, -1, -1}},
	})
}

func TestEntriesInBlocksByHand(t *testing.T) {
	checkAlignedByHand(t, []alignedCase{
		{"q{\na=1\nlong=2\n}", []int{0, 4, 4, 0}, "q {\n  a    = 1\n  long = 2\n}\n", []int{-1, 7, 7, -1}},
		{"long=0\nq{\na=1\nr{\nbc=2\nd=3\n}\ne=4\nfgh=5\n}\ni=6", []int{4, 0, 1, 0, 2, 2, 0, 3, 3, 0, 1}, "long = 0\nq {\n  a = 1\n  r {\n    bc = 2\n    d  = 3\n  }\n  e   = 4\n  fgh = 5\n}\ni = 6\n", []int{5, -1, 4, -1, 7, 7, -1, 6, 6, -1, 2}},
		{"q{\nq{\nq{\nq{\na=1\nbc=2\n}\n}\n}\n}", []int{0, 0, 0, 0, 2, 2, 0, 0, 0, 0}, "q {\n  q {\n    q {\n      q {\n        a  = 1\n        bc = 2\n      }\n    }\n  }\n}\n", []int{-1, -1, -1, -1, 11, 11, -1, -1, -1, -1}},
		{"a=1\nq{\nbc=2\nq{\ndef=3\nq{\nlong=4\nq{\nnnnnnnnnnnnn=5\n}\nx=6\n}\nxy=7\n}\nxyz=8\n}\nuvwx=9", []int{1, 0, 2, 0, 3, 0, 4, 0, 12, 0, 1, 0, 2, 0, 3, 0, 4}, "a = 1\nq {\n  bc = 2\n  q {\n    def = 3\n    q {\n      long = 4\n      q {\n        nnnnnnnnnnnn = 5\n      }\n      x = 6\n    }\n    xy = 7\n  }\n  xyz = 8\n}\nuvwx = 9\n", []int{2, -1, 5, -1, 8, -1, 11, -1, 21, -1, 8, -1, 7, -1, 6, -1, 5}},
	})
}

func TestDocumentsWithoutItemsAreAligned(t *testing.T) {
	for _, list := range [][]impl.Item{nil, {}, itemsOf("e")[:0], invalidItems()[:0]} {
		if s, ok := impl.AlignDocument(list); s != "" || !ok || len(impl.AlignWidths(list)) > 0 || len(impl.AlignColumns(list)) > 0 {
			t.Errorf("without items there are the widths %v, the columns %v and the text %q, %v", impl.AlignWidths(list), impl.AlignColumns(list), s, ok)
		}
		checkAligned(t, list)
	}
}

// All small documents with names of several lengths.
func TestSmallDocumentsAreAligned(t *testing.T) {
	aligned, others := 0, 0
	for _, letters := range slices.Concat(textsUpTo(6, "13b()"), textsUpTo(5, "12vn"), textsUpTo(7, "25b"), textsUpTo(4, "1v?n()b")) {
		if checkAligned(t, sizedItems(letters)) {
			aligned++
		} else {
			others++
		}
	}
	if aligned < 3000 || others < 3000 {
		t.Errorf("%d small documents are aligned, and %d are none", aligned, others)
	}
}

// Two entries of all lengths, next to each other and parted by everything that can stand between them.
func TestLengthsOfNames(t *testing.T) {
	for one := 1; one <= impl.MaxName; one++ {
		for two := 1; two <= impl.MaxName; two++ {
			first, second := sizeLetters[one:one+1], sizeLetters[two:two+1]
			list := sizedItems(first + second)
			both := max(one, two)
			if got := impl.AlignWidths(list); !slices.Equal(got, []int{both, both}) {
				t.Errorf("the widths of names of %d and %d bytes are %v", one, two, got)
			}
			if got := impl.AlignColumns(list); !slices.Equal(got, []int{both + 1, both + 1}) {
				t.Errorf("the columns of names of %d and %d bytes are %v", one, two, got)
			}
			for _, between := range []string{"b", "n", "(", ")", "()", "bb", "nn", "bn", "(b)", "(n)", "(())", "b()b", "(())()"} {
				letters := first + between + second
				switch between {
				case "(":
					letters += ")"
				case ")":
					letters = "(" + letters
				}
				list := sizedItems(letters)
				checkAligned(t, list)
				widths, columns := impl.AlignWidths(list), impl.AlignColumns(list)
				for at, i := range list {
					width, column := 0, -1
					if i.Kind == impl.ItemEntry {
						width, column = len(i.Name), len(i.Name)+1+2*expectedDepths(list)[at]
					}
					if widths[at] != width || columns[at] != column {
						t.Errorf("the widths of %s are %v, and the columns %v", letters, widths, columns)
					}
				}
			}
		}
	}
}

// Many entries next to each other, with the one with the longest name at every place, also at every depth.
func TestPlacesOfTheLongestName(t *testing.T) {
	for deep := range impl.MaxNest + 1 {
		for n := 1; n <= impl.MaxItems-2*deep; n++ {
			for at := range n {
				letters := []byte(strings.Repeat("(", deep) + strings.Repeat("2", n) + strings.Repeat(")", deep))
				letters[deep+at] = '5'
				list := sizedItems(string(letters))
				widths, columns := impl.AlignWidths(list), impl.AlignColumns(list)
				for k := range list {
					width, column := 0, -1
					if k >= deep && k < deep+n {
						width, column = 5, 2*deep+6
					}
					if len(widths) != len(list) || widths[k] != width || len(columns) != len(list) || columns[k] != column {
						t.Fatalf("the widths of %s are %v, and the columns %v", letters, widths, columns)
					}
				}
				if n < 4 || (n+at)%5 == 0 {
					checkAligned(t, list)
				}
			}
		}
	}
}

// An item that is put in between parts the entries, wherever that is, and nothing else changes but there.
func TestItemsThatPart(t *testing.T) {
	full := strings.Repeat("14", impl.MaxItems/2-1)
	for _, letters := range []string{full, "41" + full[2:], "(" + full[2:] + ")", "((((" + full[8:] + "))))"} {
		for at := range len(letters) + 1 {
			for _, more := range []string{"b", "n", "()"} {
				checkAligned(t, sizedItems(letters[:at]+more+letters[at:]))
			}
		}
	}
	for at := range 13 {
		letters := strings.Repeat("1", at) + "b" + strings.Repeat("1", 12-at) + "v"
		widths := impl.AlignWidths(sizedItems(letters))
		want := slices.Concat(slices.Repeat([]int{1}, at), []int{0}, slices.Repeat([]int{impl.MaxName}, 13-at))
		if !slices.Equal(widths, want) {
			t.Errorf("the widths of %s are %v", letters, widths)
		}
	}
}

func TestItemsThatAreNoDocumentAreNotAligned(t *testing.T) {
	for _, letters := range []string{
		"(", ")", ")(", "((", "))", "(()", "())", ")()", "()(", "(1", "1)", "1(", ")1", "(b", "b)", "(1(2)", "(1)2)", "12(", "12)", ")12", "(12", "((((()))))", "12((((()))))", "((((12()))))", "((((1(2)3))))", "((((", "))))", "?", "?1", "1?", "1?2", "(?)",
		strings.Repeat("1", impl.MaxItems+1), strings.Repeat("b", impl.MaxItems+1), strings.Repeat("12", impl.MaxItems/2) + "b", "b" + strings.Repeat("12", impl.MaxItems/2), strings.Repeat("()", impl.MaxItems/2) + "1", "(" + strings.Repeat("1", impl.MaxItems-1) + ")", strings.Repeat("1", 50000), strings.Repeat("(", 50000),
	} {
		checkNotAligned(t, sizedItems(letters))
	}
	bad := invalidItems()
	for k, letters := range []string{"", "1", "12", "()", "(12)", "1b2", "(1(n)3)b", "((((15))))", strings.Repeat("12", impl.MaxItems/2-1)} {
		list := sizedItems(letters)
		for at := range len(list) + 1 {
			for n, i := range bad {
				if (n+at+k)%3 == 0 {
					checkNotAligned(t, slices.Insert(slices.Clone(list), at, i))
				}
			}
		}
	}
}

// A name with points or of more than MaxName bytes, or none at all, makes an item invalid, and so all items.
func TestNamesThatAreNotAligned(t *testing.T) {
	for _, name := range []string{"", "q.a", "a.b.c", "a.", ".a", "true", "false", "A", "1a", "_a", " a", "a ", "a    ", "a=", "a\n", "\xc3\xa4", strings.Repeat("n", impl.MaxName+1), strings.Repeat("n", 2*impl.MaxText), strings.Repeat("n.", 100) + "n"} {
		for _, letters := range []string{"e", "1e2", "e12", "12e", "(e)", "1be"} {
			list := sizedItems(letters)
			list[strings.IndexByte(letters, 'e')].Name = name
			checkNotAligned(t, list)
		}
		for _, letters := range []string{"()", "1()2", "(12)", "1b()"} {
			list := sizedItems(letters)
			list[strings.IndexByte(letters, '(')].Name = name
			checkNotAligned(t, list)
		}
	}
}

// Up to MaxItems items and MaxNest blocks are aligned, and none beyond.
func TestLimitsOfAlignedItems(t *testing.T) {
	for n := range 40 {
		for _, letters := range []string{strings.Repeat("v", n), strings.Repeat("1v", n), strings.Repeat("1b", n), strings.Repeat("(1v)", n), strings.Repeat("()", n) + "12"} {
			if checkAligned(t, sizedItems(letters)) != (len(letters) <= impl.MaxItems) {
				t.Errorf("%d items are aligned, or not", len(letters))
			}
		}
	}
	for n := range 10 {
		for _, inner := range []string{"12", "1b2", "21b", ""} {
			for _, letters := range []string{strings.Repeat("(", n) + inner + strings.Repeat(")", n), strings.Repeat("(13", n) + inner + strings.Repeat("31)", n)} {
				if checkAligned(t, sizedItems(letters)) != (n <= impl.MaxNest && len(letters) <= impl.MaxItems) {
					t.Errorf("%s in %d blocks is aligned, or not", inner, n)
				}
			}
		}
	}
}

// A document has an aligned text of MaxText bytes, and none of one more, though its text without the spaces would have room.
func TestLengthsOfAlignedDocuments(t *testing.T) {
	for blocks := range impl.MaxNest + 1 {
		for n := impl.MaxText - 3; n <= impl.MaxText+3; n++ {
			for _, long := range []int{0, 7, 1000} {
				list := alignedOfBytes(t, n, blocks, long)
				fits := n <= impl.MaxText
				if checkAligned(t, list) != fits {
					t.Errorf("a document of %d bytes is aligned, or not", n)
				}
				s, _ := impl.AlignDocument(list)
				if fits && len(s) != n {
					t.Errorf("the aligned text of a document of %d bytes has %d", n, len(s))
				}
				if _, ok := impl.PrintDocument(list); !ok {
					t.Errorf("without the spaces a document of %d bytes should have room", n)
				}
				// The widths do not depend on the room.
				if widths := impl.AlignWidths(list); len(widths) != len(list) || widths[blocks] != impl.MaxName {
					t.Errorf("the widths of a document of %d bytes are %v", n, widths)
				}
				// Where there is no text, there are no lines that could have columns.
				if columns := impl.AlignColumns(list); (len(columns) == len(list)) != fits || !fits && len(columns) > 0 {
					t.Errorf("the columns of a document of %d bytes are %v", n, columns)
				}
			}
		}
	}
}

// A blank item between the entry with the long name and all others takes the spaces away, and so makes room.
func TestPartedEntriesHaveRoom(t *testing.T) {
	for blocks := range impl.MaxNest + 1 {
		list := alignedOfBytes(t, impl.MaxText+1, blocks, 0)
		parted := slices.Insert(slices.Clone(list), blocks+1, blanks(1)...)
		if checkAligned(t, list) || !checkAligned(t, parted) {
			t.Errorf("in %d blocks entries are aligned, or not", blocks)
		}
		if s, _ := impl.PrintDocument(parted); s == "" {
			t.Errorf("in %d blocks parted entries have no text", blocks)
		} else if got, _ := impl.AlignDocument(parted); got != s {
			t.Errorf("in %d blocks parted entries are aligned as %.300q", blocks, got)
		}
	}
	// Without a longer name there are no spaces that need room.
	for n := impl.MaxText - 2; n <= impl.MaxText+2; n++ {
		list := documentOfBytes(n, 2)
		if checkAligned(t, list) != (n <= impl.MaxText) {
			t.Errorf("a document of %d bytes with names of one byte is aligned, or not", n)
		}
		for _, letter := range []byte("bn") {
			more := append(slices.Clone(list), itemOf(letter, 0))
			if checkAligned(t, more) != (n+len(expectedItemLine(more[len(list)], 0))+1 <= impl.MaxText) {
				t.Errorf("with one more %c a document of %d bytes is aligned, or not", letter, n)
			}
		}
	}
}

// Every expression and note stands in the aligned line as it does in the one that is not aligned.
func TestExpressionsOfAlignedEntries(t *testing.T) {
	exprs := slices.Concat(validExprs(), limitExprs())
	notes := []string{"", "x = 1", "", `"# "\`, "= =", strings.Repeat("=", impl.MaxNote)}
	large := 0
	for from := 0; from < len(exprs); from += 5 {
		list := sizedItems([]string{"15342", "(15b342)", "v1n1v1", "1(((3v1)5)2)1"}[from/5%4])
		for k := range list {
			if list[k].Kind == impl.ItemEntry {
				list[k].Expr, list[k].Note = exprs[(from+k)%len(exprs)], notes[(from+k)%len(notes)]
			}
		}
		if !checkAligned(t, list) {
			large++
		}
	}
	if large > 0 {
		t.Errorf("%d documents are too large", large)
	}
}

// What stands before a document or behind it does not count, and nothing is written there; results are new.
func TestAlignedItemsStay(t *testing.T) {
	for _, list := range sizedDocuments(141, 400) {
		roomy := roomyItems(list)
		widths, columns := impl.AlignWidths(roomy), impl.AlignColumns(roomy)
		s, _ := impl.AlignDocument(roomy)
		for _, other := range [][]int{impl.AlignWidths(roomy), impl.AlignColumns(roomy)} {
			whole := other[:cap(other)]
			for k := range whole {
				whole[k] = 1000
			}
		}
		if !sameItems(roomy, list) {
			t.Fatalf("%s became %s", shortly(list), shortly(roomy))
		}
		checkRoom(t, roomy)
		spoilItems(roomy)
		want, _ := expectedAligned(list)
		if s != want || !slices.Equal(widths, expectedWidths(list)) || !slices.Equal(columns, expectedColumns(list)) {
			t.Fatalf("the widths of %s became %v, the columns %v, and the text %.300q", lettersOf(list), widths, columns, s)
		}
		room := slices.Concat(sizedItems("v)"), list, sizedItems("v("))
		checkAligned(t, room[2:2+len(list)])
		for n := range len(room) - 1 {
			checkAligned(t, room[2:2+n])
		}
	}
}
