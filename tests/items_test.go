package tests

import (
	"math/rand"
	"slices"
	"strings"
	"testing"

	"loop.example/configformatter/impl"
)

func TestDocumentConstants(t *testing.T) {
	got := []int{impl.ItemBlank, impl.ItemNote, impl.ItemEntry, impl.ItemOpen, impl.ItemClose, impl.MaxItems, impl.MaxNest, impl.MaxNote}
	if !slices.Equal(got, []int{1, 2, 3, 4, 5, 30, 4, 60}) {
		t.Fatal(got)
	}
}

// checkNote compares whether a text is a note with what is expected; it is so alone, in an ItemNote and in an ItemEntry. It returns whether it is one.
func checkNote(t *testing.T, s string) bool {
	t.Helper()
	want := expectedNote(s)
	if got := impl.NoteValid(s); got != want {
		t.Errorf("NoteValid(%.70q) of %d bytes is %v", s, len(s), got)
	}
	one := leaf(impl.CellNumber, "1")
	for _, i := range []impl.Item{{Kind: impl.ItemNote, Note: s}, {Kind: impl.ItemEntry, Name: "a", Expr: one, Note: s}} {
		if got := impl.ItemValid(i); got != want {
			t.Errorf("an item of the kind %d with the note %.70q of %d bytes is valid: %v", i.Kind, s, len(s), got)
		}
	}
	for _, i := range []impl.Item{{Kind: impl.ItemBlank, Note: s}, {Kind: impl.ItemOpen, Name: "a", Note: s}, {Kind: impl.ItemClose, Note: s}} {
		if got := impl.ItemValid(i); got != (s == "") {
			t.Errorf("an item of the kind %d with the note %.70q of %d bytes is valid: %v", i.Kind, s, len(s), got)
		}
	}
	return want
}

func TestNotesByHand(t *testing.T) {
	for _, s := range []string{"", "x", "#", "##", "a b", "a  b", "a = 1", "{", "}", "true", `"`, "\\", "# x", "!", "~", strings.Repeat("x", 60), "x" + strings.Repeat(" ", 58) + "x"} {
		if !impl.NoteValid(s) {
			t.Errorf("%q is no note", s)
		}
		checkNote(t, s)
	}
	for _, s := range []string{" ", "  ", " x", "x ", " x ", "# ", "\n", "x\n", "\nx", "x\ny", "a \n", " \nb", "\t", "x\r", "\x00", "\x1f", "\x7f", "\x80", "\xff", "\xc3\xa4", strings.Repeat("x", 61), strings.Repeat("x", 60) + " ", strings.Repeat("x", 61) + "\n", strings.Repeat(" ", 60)} {
		if impl.NoteValid(s) {
			t.Errorf("%q is a note", s)
		}
		checkNote(t, s)
	}
}

func TestNotes(t *testing.T) {
	for _, s := range slices.Concat(textsUpTo(5, "a# \n\x01"), allBytes(), candidateWords(), invalidTexts()) {
		checkNote(t, s)
	}
	// Every byte at every place of a note.
	for _, n := range []int{2, 3, 5, impl.MaxNote} {
		for at := range n {
			for b := range 256 {
				s := []byte(strings.Repeat("x", n))
				s[at] = byte(b)
				checkNote(t, string(s))
			}
		}
	}
}

func TestLengthsOfNotes(t *testing.T) {
	for n := range 130 {
		for _, s := range []string{strings.Repeat("x", n), strings.Repeat(" ", n), strings.Repeat("\n", n)} {
			checkNote(t, s)
		}
		if n > 2 {
			checkNote(t, "x"+strings.Repeat(" ", n-2)+"x")
			checkNote(t, "x"+strings.Repeat(" ", n-1))
			checkNote(t, strings.Repeat(" ", n-1)+"x")
			checkNote(t, "x"+strings.Repeat(" ", n-2)+"\n")
		}
	}
	for _, n := range []int{256, 256 + impl.MaxNote, impl.MaxText, impl.MaxText + 1, 1 << 20} {
		checkNote(t, strings.Repeat("x", n))
	}
}

// notesToPromise returns valid notes of all lengths.
func notesToPromise() []string {
	r := rand.New(rand.NewSource(45))
	list := slices.DeleteFunc(append(textsUpTo(4, "a# \"~"), someNotes()...), func(s string) bool { return !expectedNote(s) })
	for n := 1; n <= impl.MaxNote; n++ {
		for range 20 {
			s := make([]byte, n)
			for at := range s {
				s[at] = byte(32 + r.Intn(95))
			}
			s[0], s[n-1] = byte(33+r.Intn(94)), byte(33+r.Intn(94))
			list = append(list, string(s))
		}
	}
	return list
}

// Promise 45: notes have no spaces at their ends.
func TestNotesHaveNoSpacesAtTheirEnds(t *testing.T) {
	short, long := 0, 0
	for _, s := range notesToPromise() {
		if !checkNote(t, s) {
			t.Errorf("%q is no note", s)
		}
		for _, space := range []string{" ", "  ", "\n", " \n", "\n "} {
			if impl.NoteValid(s+space) || impl.NoteValid(space+s) || impl.NoteValid(space+s+space) {
				t.Errorf("%q is a note with %q at an end", s, space)
			}
		}
		for _, words := range [][2]string{{"a ", " b"}, {"a", "b"}, {"two words ", " and others"}, {"# ", " #"}, {"a  ", "  b"}, {"\" ", " \""}} {
			between := words[0] + s + words[1]
			fits := len(between) <= 60
			if checkNote(t, between) != fits || impl.NoteValid(between) != fits {
				t.Errorf("%q of %d bytes is a note: %v", between, len(between), !fits)
			}
			if impl.NoteValid(between+" ") || impl.NoteValid(" "+between) || impl.NoteValid(words[0]+s+" ") || impl.NoteValid(" "+s+words[1]) {
				t.Errorf("%q is a note with a space at an end", between)
			}
			if fits {
				short++
			} else {
				long++
			}
		}
	}
	if short < 1000 || long < 100 {
		t.Errorf("%d texts are short enough and %d too long", short, long)
	}
}

// checkItem compares whether an item is valid with what is expected; a document of it alone, or in a block, or with what it opens or closes, is one if it is. It returns whether it is valid.
func checkItem(t *testing.T, i impl.Item) bool {
	t.Helper()
	before, want := slices.Clone(i.Expr), expectedItem(i)
	if got := impl.ItemValid(i); got != want {
		t.Fatalf("the item %s of the kind %d is valid: %v", shortly(i), i.Kind, got)
	}
	list := []impl.Item{i}
	switch i.Kind {
	case impl.ItemOpen:
		list = []impl.Item{i, {Kind: impl.ItemClose}}
	case impl.ItemClose:
		list = []impl.Item{{Kind: impl.ItemOpen, Name: "q"}, i}
	}
	if checkDocument(t, list) != want {
		t.Fatalf("the items %s are a document: %v", shortly(list), !want)
	}
	if !slices.Equal(i.Expr, before) {
		t.Fatalf("the expression %s became %s", shortly(before), shortly(i.Expr))
	}
	return want
}

func TestItemsByHand(t *testing.T) {
	one := leaf(impl.CellNumber, "1")
	good := []impl.Item{
		{Kind: 1}, {Kind: 1, Expr: []impl.Cell{}}, {Kind: 5}, {Kind: 5, Expr: []impl.Cell{}},
		{Kind: 2}, {Kind: 2, Note: "x"}, {Kind: 2, Note: "a b", Expr: []impl.Cell{}}, {Kind: 2, Note: "# a = 1"},
		{Kind: 3, Name: "a", Expr: one}, {Kind: 3, Name: "a", Expr: one, Note: "x"}, {Kind: 3, Name: "nnnnnnnnnnnn", Expr: written("a + b.c")}, {Kind: 3, Name: "truth", Expr: written("true")},
		{Kind: 4, Name: "q"}, {Kind: 4, Name: "q_1", Expr: []impl.Cell{}}, {Kind: 4, Name: "nnnnnnnnnnnn"},
	}
	for _, i := range good {
		if !impl.ItemValid(i) {
			t.Errorf("%v is not valid", i)
		}
		checkItem(t, i)
	}
	bad := []impl.Item{
		{}, {Kind: 6}, {Kind: -1}, {Kind: -3, Name: "a", Expr: one}, {Kind: 0, Note: "x"}, {Kind: 6, Name: "a", Expr: one}, {Kind: 6, Note: "x"}, {Kind: 6, Name: "q"},
		{Kind: 1, Name: "a"}, {Kind: 1, Expr: one}, {Kind: 1, Note: "x"}, {Kind: 5, Name: "q"}, {Kind: 5, Expr: one}, {Kind: 5, Note: "x"},
		{Kind: 2, Name: "a"}, {Kind: 2, Expr: one}, {Kind: 2, Note: " x"}, {Kind: 2, Note: "x", Name: "a"}, {Kind: 2, Note: "x", Expr: one},
		{Kind: 3}, {Kind: 3, Name: "a"}, {Kind: 3, Expr: one}, {Kind: 3, Name: "q.a", Expr: one}, {Kind: 3, Name: "true", Expr: one}, {Kind: 3, Name: "false", Expr: one}, {Kind: 3, Name: "nnnnnnnnnnnnn", Expr: one}, {Kind: 3, Name: "a", Expr: one, Note: "x "}, {Kind: 3, Name: "a", Expr: append(one, one...)}, {Kind: 3, Name: "a", Expr: leaf(impl.CellNumber, "-1")},
		{Kind: 4}, {Kind: 4, Name: "q.a"}, {Kind: 4, Name: "true"}, {Kind: 4, Name: "nnnnnnnnnnnnn"}, {Kind: 4, Name: "q", Expr: one}, {Kind: 4, Name: "q", Note: "x"}, {Kind: 4, Note: "x"},
	}
	for _, i := range bad {
		if impl.ItemValid(i) {
			t.Errorf("%v is valid", i)
		}
		checkItem(t, i)
	}
}

// Every kind with every name, expression and note: what one of them is does not depend on the others.
func TestWhatItemsHave(t *testing.T) {
	part := strings.Repeat("n", impl.MaxName)
	names := []string{"", "a", "a.b", "true", "false", part, part + "n", "A", "1", "x_1", " a", "a\n", "\xff", "truth"}
	exprs := [][]impl.Cell{nil, {}, leaf(impl.CellNumber, "1"), written("[a, b]"), chain(impl.MaxDepth, chainSteps()[0]), chain(impl.MaxDepth+1, chainSteps()[0]), wide(impl.MaxCells), wide(impl.MaxCells + 1), {{}}, tree(impl.CellUnary, "!")}
	notes := []string{"", "x", " ", " x", "x ", "a b", "a\nb", "\x01", strings.Repeat("x", impl.MaxNote), strings.Repeat("x", impl.MaxNote+1)}
	valid := map[int]int{}
	for _, kind := range candidateKinds() {
		for _, name := range names {
			for _, expr := range exprs {
				for _, note := range notes {
					if checkItem(t, impl.Item{Kind: kind, Name: name, Expr: expr, Note: note}) {
						valid[kind]++
					}
				}
			}
		}
	}
	// One name or four, no expression in two ways or four of them, and one note or four.
	want := map[int]int{impl.ItemBlank: 2, impl.ItemNote: 2 * 4, impl.ItemEntry: 4 * 4 * 4, impl.ItemOpen: 4 * 2, impl.ItemClose: 2}
	for kind := range want {
		if valid[kind] != want[kind] {
			t.Errorf("%d items of the kind %d are valid, and not %d", valid[kind], kind, want[kind])
		}
	}
	if len(valid) != len(want) {
		t.Errorf("items are valid of the kinds %v", valid)
	}
}

func TestNamesOfItems(t *testing.T) {
	one := leaf(impl.CellNumber, "1")
	for _, name := range slices.Concat(candidateWords(), textsUpTo(3, "az1_.A "), []string{"a" + strings.Repeat(".a", 1000)}) {
		want := expectedPlainName(name)
		for _, i := range []impl.Item{{Kind: impl.ItemEntry, Name: name, Expr: one}, {Kind: impl.ItemEntry, Name: name, Expr: one, Note: "x"}, {Kind: impl.ItemOpen, Name: name}} {
			if checkItem(t, i) != want {
				t.Errorf("an item of the kind %d with the name %.70q is valid: %v", i.Kind, name, !want)
			}
		}
		for _, kind := range []int{impl.ItemBlank, impl.ItemNote, impl.ItemClose} {
			if checkItem(t, impl.Item{Kind: kind, Name: name}) != (name == "") {
				t.Errorf("an item of the kind %d has the name %.70q", kind, name)
			}
		}
	}
	for n := range 40 {
		for _, kind := range []byte("e(") {
			i := itemOf(kind, 0)
			i.Name = strings.Repeat("n", n)
			if checkItem(t, i) != (n >= 1 && n <= 12) {
				t.Errorf("an item with a name of %d bytes is valid, or not", n)
			}
		}
	}
}

func TestExpressionsOfItems(t *testing.T) {
	for _, list := range slices.Concat(validExprs(), invalidExprs()) {
		want := expectedSpans(list) != nil
		if checkItem(t, impl.Item{Kind: impl.ItemEntry, Name: "a", Expr: list}) != want {
			t.Errorf("an entry with %s is valid: %v", shortly(list), !want)
		}
	}
	for _, list := range slices.Concat(ordinaryExprs(), edgeExprs(), invalidExprs()) {
		for _, letter := range []byte("bn()") {
			i := itemOf(letter, 0)
			i.Expr = list
			if checkItem(t, i) != (len(list) == 0) {
				t.Errorf("an item of the kind %d has the expression %s", i.Kind, shortly(list))
			}
		}
	}
}

// What stands in the memory behind the end of an expression is no part of it.
func TestCellsBehindTheEndOfItems(t *testing.T) {
	for _, list := range slices.Concat(someExprs(), edgeExprs()) {
		room := slices.Concat(list, list)
		for n := range 3 {
			i := impl.Item{Kind: impl.ItemEntry, Name: "a", Expr: room[:len(list)-1+n]}
			if checkItem(t, i) != (n == 1) {
				t.Errorf("with %d of the cells %s an entry is valid, or not", len(i.Expr), shape(list))
			}
		}
		for _, letter := range []byte("bn()") {
			i := itemOf(letter, 1)
			i.Expr = room[:0]
			if !checkItem(t, i) {
				t.Errorf("an item of the kind %d without cells is not valid", i.Kind)
			}
		}
		if !slices.Equal(room, slices.Concat(list, list)) {
			t.Errorf("the cells behind %s were changed", shape(list))
		}
	}
}

// Promise 46: items have kinds.
func TestItemsHaveKinds(t *testing.T) {
	for number := range 200 {
		for kind := impl.ItemBlank; kind <= impl.ItemClose; kind++ {
			i := itemOf(itemLetters[kind], number)
			if !checkItem(t, i) {
				t.Fatalf("%v is not valid", i)
			}
			for _, other := range candidateKinds() {
				changed := i
				changed.Kind = other
				valid := checkItem(t, changed)
				if valid && (other < 1 || other > 5) {
					t.Errorf("%v is valid", changed)
				}
			}
			if i.Name != "" {
				if blank := (impl.Item{Kind: impl.ItemBlank, Name: i.Name}); checkItem(t, blank) {
					t.Errorf("%v is valid", blank)
				}
			}
		}
	}
	for _, name := range append(someNames(), candidateWords()...) {
		if name != "" && impl.ItemValid(impl.Item{Kind: impl.ItemBlank, Name: name}) {
			t.Errorf("a blank item may have the name %.70q", name)
		}
	}
}

func TestItemsThatAreNotValid(t *testing.T) {
	for _, i := range invalidItems() {
		if expectedItem(i) {
			t.Fatalf("%s should not be valid", shortly(i))
		}
		checkItem(t, i)
	}
}
