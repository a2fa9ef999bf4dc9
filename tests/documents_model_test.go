package tests

import (
	"math"
	"math/rand"
	"regexp"
	"slices"
	"strconv"
	"strings"
	"testing"

	"loop.example/configformatter/impl"
)

var (
	notePattern      = regexp.MustCompile(`\A(?:[!-~](?:[ -~]*[!-~])?)?\z`)
	plainNamePattern = cellPatterns[impl.CellCall]
)

// itemParts has for every kind of items whether they have a name, an expression and a note.
var itemParts = map[int][3]bool{
	impl.ItemBlank: {}, impl.ItemNote: {false, false, true}, impl.ItemEntry: {true, true, true}, impl.ItemOpen: {true, false, false}, impl.ItemClose: {},
}

// itemLetters has a letter for every kind of items, so that documents can be looked at as words.
const itemLetters = "?bne()"

func expectedNote(s string) bool {
	return len(s) <= 60 && notePattern.MatchString(s)
}

func expectedPlainName(s string) bool {
	return plainNamePattern.MatchString(s) && s != "true" && s != "false"
}

// expectedItem reports by a table and patterns whether an item is valid.
func expectedItem(i impl.Item) bool {
	parts, known := itemParts[i.Kind]
	name, expr, note := i.Name == "", len(i.Expr) == 0, i.Note == ""
	if parts[0] {
		name = expectedPlainName(i.Name)
	}
	if parts[1] {
		expr = expectedSpans(i.Expr) != nil
	}
	if parts[2] {
		note = expectedNote(i.Note)
	}
	return known && name && expr && note
}

// lettersOf returns a letter for every item.
func lettersOf(list []impl.Item) string {
	var letters []byte
	for _, i := range list {
		if i.Kind < 1 || i.Kind >= len(itemLetters) {
			i.Kind = 0
		}
		letters = append(letters, itemLetters[i.Kind])
	}
	return string(letters)
}

// expectedDocument reports whether items are a document: of blocks that are closed nothing remains if the inmost ones are left out again and again.
func expectedDocument(list []impl.Item) bool {
	if len(list) > 30 || slices.ContainsFunc(list, func(i impl.Item) bool { return !expectedItem(i) }) {
		return false
	}
	blocks := strings.NewReplacer("b", "", "n", "", "e", "").Replace(lettersOf(list))
	for range 4 {
		blocks = strings.ReplaceAll(blocks, "()", "")
	}
	return blocks == ""
}

// expectedDepths returns the depths of the items of a document.
func expectedDepths(list []impl.Item) []int {
	letters, depths := lettersOf(list), []int(nil)
	for at := range letters {
		depths = append(depths, strings.Count(letters[:at], "(")-strings.Count(letters[:at+1], ")"))
	}
	return depths
}

// expectedTidy returns the letters of a document when it is tidy.
func expectedTidy(letters string) string {
	for before := ""; before != letters; {
		before = letters
		letters = strings.NewReplacer("bb", "b", "(b", "(", "b)", ")").Replace(strings.Trim(letters, "b"))
	}
	return letters
}

func notBlank(list []impl.Item) []impl.Item {
	return slices.DeleteFunc(slices.Clone(list), func(i impl.Item) bool { return i.Kind == impl.ItemBlank })
}

// clonedItems returns items of their own memory.
func clonedItems(list []impl.Item) []impl.Item {
	copies := slices.Clone(list)
	for k := range copies {
		copies[k].Expr = slices.Clone(list[k].Expr)
	}
	return copies
}

func sameItem(a, b impl.Item) bool {
	return a.Kind == b.Kind && a.Name == b.Name && slices.Equal(a.Expr, b.Expr) && a.Note == b.Note
}

func sameItems(a, b []impl.Item) bool {
	return slices.EqualFunc(a, b, sameItem)
}

// checkDocument compares what all functions return for items with what is expected, and looks whether the items stay. It returns whether they are a document.
func checkDocument(t *testing.T, list []impl.Item) bool {
	t.Helper()
	before, valid := clonedItems(list), expectedDocument(list)
	letters := lettersOf(list[:min(len(list), 40)])
	if got := impl.DocumentValid(list); got != valid {
		t.Fatalf("%d items %s %s are a document: %v", len(list), letters, shortly(list), got)
	}
	depths, tidy := impl.DepthsOf(list), impl.TidyItems(list)
	if !valid && (depths != nil || tidy != nil) {
		t.Fatalf("%d items %s %s have the depths %v and are tidy as %s", len(list), letters, shortly(list), depths, shortly(tidy))
	}
	if valid && !slices.Equal(depths, expectedDepths(list)) {
		t.Fatalf("the depths of %s are %v", letters, depths)
	}
	if valid && (lettersOf(tidy) != expectedTidy(letters) || !sameItems(notBlank(tidy), notBlank(list)) || slices.ContainsFunc(tidy, func(i impl.Item) bool { return !expectedItem(i) })) {
		t.Fatalf("%s is tidy as %s: %s", letters, lettersOf(tidy), shortly(tidy))
	}
	if !sameItems(list, before) {
		t.Fatalf("%s %s became %s", letters, shortly(before), shortly(list))
	}
	return valid
}

// exprsOfItems are read only once, because there are many items.
var exprsOfItems = writtenAll("1", `"a b"`, "true", "a", "a + b * 2", "[1, [2, \"#\"]]", "f(a.b, -3)", "!!x && true", "c ? 1 : q.a", "[]", `"{ = }"`, "a - (b - c)")

// someExprs returns expressions for entries.
func someExprs() [][]impl.Cell {
	return cloned(exprsOfItems)
}

// someNames returns names without points.
func someNames() []string {
	return []string{"a", "b", "x_1", "port", "server", "trues", "z9", strings.Repeat("n", impl.MaxName), "e", "false_"}
}

// someNotes returns notes; every second one is empty.
func someNotes() []string {
	return []string{"", "x", "", "two words", "", "# ", "", `"`, "", "a = 1 {", "", "}", "", strings.Repeat("x ", 29) + "yz"}
}

// itemOf returns a valid item of a kind; number chooses what it has.
func itemOf(letter byte, number int) impl.Item {
	i := impl.Item{Kind: strings.IndexByte(itemLetters, letter)}
	names, notes := someNames(), someNotes()
	parts := itemParts[i.Kind]
	if parts[0] {
		i.Name = names[number%len(names)]
	}
	if parts[1] {
		i.Expr = slices.Clone(exprsOfItems[number%len(exprsOfItems)])
	}
	if parts[2] {
		i.Note = strings.TrimSpace(notes[number%len(notes)])
	}
	return i
}

// itemsOf returns a valid item for every letter.
func itemsOf(letters string) []impl.Item {
	var list []impl.Item
	for at := range letters {
		list = append(list, itemOf(letters[at], len(letters)+at))
	}
	return list
}

// distinctItems returns items like itemsOf, whose entries and blocks all have different names and expressions, and whose notes are different.
func distinctItems(letters string) []impl.Item {
	list := itemsOf(letters)
	for at := range list {
		number := strconv.Itoa(at)
		switch list[at].Kind {
		case impl.ItemNote:
			list[at].Note = "note " + number
		case impl.ItemEntry:
			list[at].Name, list[at].Expr, list[at].Note = "e"+number, leaf(impl.CellNumber, number), "entry "+number
		case impl.ItemOpen:
			list[at].Name = "q" + number
		}
	}
	return list
}

// randomLetters returns the letters of a document of so many items in which at most so many blocks are open; the letters of weights, but for those of blocks, are the items between them.
func randomLetters(r *rand.Rand, items int, nest int, weights string) string {
	var letters []byte
	open := 0
	for left := items; left > 0; left-- {
		letter := weights[r.Intn(len(weights))]
		switch {
		case left == open || letter == ')' && open > 0:
			letter = ')'
			open--
		case letter == '(' && open < nest && left >= open+2:
			open++
		case letter == '(' || letter == ')':
			letter = 'e'
		}
		letters = append(letters, letter)
	}
	return string(letters)
}

// randomDocuments returns documents of all sizes.
func randomDocuments(seed int64, many int) [][]impl.Item {
	r := rand.New(rand.NewSource(seed))
	weights := []string{"be()", "bbne()", "ne((()", "bb(())", "bnee()", "bbbe", "e"}
	var list [][]impl.Item
	for k := range many {
		list = append(list, itemsOf(randomLetters(r, k%(impl.MaxItems+1), r.Intn(impl.MaxNest+1), weights[r.Intn(len(weights))])))
	}
	return list
}

// limitLetters returns the letters of documents with as many items or open blocks as there may be.
func limitLetters() []string {
	deepest := "(b(n(e(be)n)b)e)"
	list := []string{
		"", deepest, deepest + strings.Repeat("e", impl.MaxItems-16), "((((" + strings.Repeat("e", 22) + "))))", "((((" + strings.Repeat("b", 22) + "))))",
		strings.Repeat("()", 15), strings.Repeat("(())", 7) + "()", strings.Repeat("(((())))", 3) + "((()))", "(((" + strings.Repeat("()", 12) + ")))", "(((" + strings.Repeat("()b", 8) + ")))",
		"b(b(b(b(bb)b)b)b)b", strings.Repeat("be", 15), strings.Repeat("eb", 15), strings.Repeat("(b)", 10), strings.Repeat("(e)b", 7) + "()",
	}
	for _, letter := range []string{"b", "n", "e"} {
		list = append(list, letter, strings.Repeat(letter, impl.MaxItems-1), strings.Repeat(letter, impl.MaxItems))
	}
	return list
}

func limitDocuments() [][]impl.Item {
	var list [][]impl.Item
	for _, letters := range limitLetters() {
		list = append(list, itemsOf(letters), distinctItems(letters))
	}
	return list
}

// validDocuments returns documents of all sizes, small ones of every kind among them.
func validDocuments(seed int64, many int) [][]impl.Item {
	list := append(limitDocuments(), randomDocuments(seed, many)...)
	for _, letters := range textsUpTo(4, "bne()") {
		if items := itemsOf(letters); expectedDocument(items) {
			list = append(list, items)
		}
	}
	return list
}

// invalidItems returns items that are not valid, for every reason.
func invalidItems() []impl.Item {
	one, part := leaf(impl.CellNumber, "1"), strings.Repeat("n", impl.MaxName)
	var list []impl.Item
	for kind := impl.ItemBlank; kind <= impl.ItemClose; kind++ {
		good, parts := itemOf(itemLetters[kind], 0), itemParts[kind]
		for _, name := range []string{"a", "", "a.b", "true", "false", part + "n", "A", "1a", "_a", "a ", " a", "a\n", ".", "a.", "\xff", "a-b", "a{", "="} {
			if parts[0] == (name != "a") && (parts[0] || name != "") {
				i := good
				i.Name = name
				list = append(list, i)
			}
		}
		for _, expr := range [][]impl.Cell{one, nil, {}, {{}}, append(one, one...), chain(impl.MaxDepth+1, chainSteps()[0]), wide(impl.MaxCells + 1), tree(impl.CellUnary, "+", one), leaf(impl.CellNumber, "-1"), leaf(impl.CellName, "A"), leaf(10, "")} {
			if fits := expectedSpans(expr) != nil; parts[1] != fits && (parts[1] || len(expr) > 0) {
				i := good
				i.Expr = expr
				list = append(list, i)
			}
		}
		for _, note := range []string{"x", " ", " x", "x ", "x\n", "\nx", "x\ny", "\n", "\x00", "x\x7f", "\xc3\xa4", "\t", strings.Repeat("x", impl.MaxNote+1)} {
			if parts[2] == (note != "x") {
				i := good
				i.Note = note
				list = append(list, i)
			}
		}
		for _, other := range []int{0, 6, 7, -1, -kind, kind + 10, kind + 256, kind + 1<<32, math.MinInt, math.MaxInt} {
			i := good
			i.Kind = other
			list = append(list, i)
		}
	}
	return list
}
