package tests

import (
	"fmt"
	"math/rand"
	"slices"
	"strings"
	"testing"

	"loop.example/configformatter/impl"
)

// checkLetters checks the items of letters, those with different names too, and returns whether they are a document.
func checkLetters(t *testing.T, letters string) bool {
	t.Helper()
	valid := checkDocument(t, distinctItems(letters))
	if checkDocument(t, itemsOf(letters)) != valid {
		t.Fatalf("%s is a document, or not, by what its items have", letters)
	}
	return valid
}

func TestDocumentsByHand(t *testing.T) {
	// Letters, their depths, and the letters that are tidy.
	cases := [][3]string{
		{"", "", ""}, {"e", "0", "e"}, {"n", "0", "n"}, {"b", "0", ""}, {"bb", "00", ""}, {"bbb", "000", ""}, {"()", "00", "()"}, {"(e)", "010", "(e)"},
		{"(())", "0110", "(())"}, {"((()))", "012210", "((()))"}, {"(((())))", "01233210", "(((())))"}, {"()()", "0000", "()()"}, {"(()())", "011110", "(()())"}, {"e(n)e", "00100", "e(n)e"},
		{"be", "00", "e"}, {"eb", "00", "e"}, {"beb", "000", "e"}, {"bbebb", "00000", "e"}, {"ebe", "000", "ebe"}, {"ebbe", "0000", "ebe"}, {"ebbbbn", "000000", "ebn"}, {"nbebn", "00000", "nbebn"},
		{"(b)", "010", "()"}, {"(bb)", "0110", "()"}, {"(be)", "0110", "(e)"}, {"(eb)", "0110", "(e)"}, {"(bbebb)", "0111110", "(e)"}, {"(ebe)", "01110", "(ebe)"}, {"(ebbe)", "011110", "(ebe)"},
		{"b()", "000", "()"}, {"()b", "000", "()"}, {"b()b", "0000", "()"}, {"()b()", "00000", "()b()"}, {"()bb()", "000000", "()b()"}, {"eb()be", "000000", "eb()be"}, {"ebb()bbe", "00000000", "eb()be"},
		{"(b())", "01110", "(())"}, {"(()b)", "01110", "(())"}, {"((b)b)", "012110", "(())"}, {"(b(b))", "011210", "(())"}, {"(eb(b))", "0111210", "(eb())"}, {"((b)be)", "0121110", "(()be)"},
		{"b(b(b(b(b)b)b)b)b", "00112233433221100", "(((())))"}, {"(bb(ebbbe)bb(n)b)b", "011122222111121100", "((ebe)b(n))"},
	}
	for _, c := range cases {
		list := distinctItems(c[0])
		if !impl.DocumentValid(list) {
			t.Errorf("%s is no document", c[0])
		}
		var depths strings.Builder
		for _, deep := range impl.DepthsOf(list) {
			depths.WriteString(fmt.Sprint(deep))
		}
		if depths.String() != c[1] || lettersOf(impl.TidyItems(list)) != c[2] {
			t.Errorf("%s has the depths %s and is tidy as %s", c[0], &depths, lettersOf(impl.TidyItems(list)))
		}
		checkLetters(t, c[0])
	}
}

func TestItemsThatAreNoDocument(t *testing.T) {
	cases := []string{
		"(", ")", ")(", "((", "))", "(()", "())", ")()", "()(", "())(", "(e", "e)", "e(", ")e", "(b", "b)", "(n", "n)", "()e)", "(e(e)", "(e)e)", "((((()))))", "e((((()))))", "((((()))))e", "()((((()))))", "((((e(e)e))))", "(((((((((())))))))))",
		"((((", "))))", "((((((", ")))(((", "(((()))", "((()))))", "(()))(()", "?", "?e", "e?", "(?)", "?()", "(?", "?)",
	}
	for _, letters := range cases {
		list := distinctItems(letters)
		if impl.DocumentValid(list) || impl.DepthsOf(list) != nil || impl.TidyItems(list) != nil {
			t.Errorf("%s is a document with the depths %v, tidy as %v", letters, impl.DepthsOf(list), impl.TidyItems(list))
		}
		checkLetters(t, letters)
	}
}

func TestSmallDocuments(t *testing.T) {
	valid := 0
	for _, letters := range append(textsUpTo(8, "be()"), textsUpTo(6, "bne()")...) {
		if checkDocument(t, distinctItems(letters)) {
			valid++
		}
	}
	for _, letters := range textsUpTo(12, "()") {
		checkDocument(t, distinctItems(letters))
	}
	if valid < 3000 {
		t.Errorf("only %d documents are small", valid)
	}
}

func TestNumbersOfItems(t *testing.T) {
	checkDocument(t, nil)
	checkDocument(t, []impl.Item{})
	for n := range 40 {
		for _, letter := range []string{"b", "n", "e", "()", "(b)", "(())", "((()))", "(e)b"} {
			letters := strings.Repeat(letter, n)
			if checkLetters(t, letters) != (len(letters) <= 30) {
				t.Errorf("%d items %s are a document, or not", len(letters), letters)
			}
		}
		if got := checkLetters(t, "(("+strings.Repeat("e", n)+"))"); got != (n <= 26) {
			t.Errorf("%d items in blocks are a document: %v", n, got)
		}
	}
	for _, letter := range []string{"b", "e", "(", ")", "()", "?"} {
		for _, n := range []int{100, 50000} {
			if checkDocument(t, itemsOf(strings.Repeat(letter, n))) {
				t.Errorf("%d times %s is a document", n, letter)
			}
		}
	}
}

func TestNestedBlocks(t *testing.T) {
	for n := range 15 {
		nest := strings.Repeat("(", n) + strings.Repeat(")", n)
		for _, letters := range []string{nest, "e" + nest, nest + "e", "()" + nest, nest + "()", "b" + nest + "b"} {
			if checkLetters(t, letters) != (n <= 4 && len(letters) <= 30) {
				t.Errorf("%s is a document, or not", letters)
			}
		}
		for _, inner := range []string{"e", "b", "n", "ebe", "()", "e()", "()e"} {
			more := strings.Count(inner, "(")
			if checkLetters(t, strings.Repeat("(", n)+inner+strings.Repeat(")", n)) != (n+more <= 4) {
				t.Errorf("%s in %d blocks is a document, or not", inner, n)
			}
		}
		// Together more than MaxNest may be there, but not open.
		if behind := strings.Repeat("()", n); checkLetters(t, behind) != (n <= 15) || checkLetters(t, "((("+behind+")))") != (n <= 12) || checkLetters(t, "(((("+behind+"))))") != (n == 0) {
			t.Errorf("%d blocks behind blocks are a document, or not", n)
		}
	}
	// A block that is too deep is found wherever it stands.
	for _, letters := range []string{"(((())))", "()()()()()()", "(e(e)e)(e(e)e)", "(()(()(()())))"} {
		for at := range len(letters) + 1 {
			for _, more := range []string{"()", "(())", "((()))", "(((())))", "((((()))))"} {
				checkLetters(t, letters[:at]+more+letters[at:])
			}
		}
	}
}

func TestDocuments(t *testing.T) {
	deep, long := 0, 0
	for _, list := range validDocuments(11, 4000) {
		if !checkDocument(t, list) {
			t.Fatalf("%s is no document", lettersOf(list))
		}
		if slices.Contains(impl.DepthsOf(list), impl.MaxNest) {
			deep++
		}
		if len(list) == impl.MaxItems {
			long++
		}
	}
	if deep < 100 || long < 100 {
		t.Errorf("%d documents are deep and %d are long", deep, long)
	}
}

// Every item counts: with one that is changed, left out, or put in, the items are what their letters tell.
func TestChangedDocuments(t *testing.T) {
	r := rand.New(rand.NewSource(12))
	valid, invalid := 0, 0
	for _, list := range validDocuments(12, 3000) {
		at := r.Intn(len(list) + 1)
		letter := itemLetters[1+r.Intn(5)]
		changed := [][]impl.Item{slices.Insert(slices.Clone(list), at, itemOf(letter, at)), list[:at], list[at:]}
		if at < len(list) {
			other := slices.Clone(list)
			other[at] = itemOf(letter, at)
			kind := slices.Clone(list)
			kind[at].Kind = 1 + r.Intn(5)
			changed = append(changed, slices.Delete(slices.Clone(list), at, at+1), other, kind, slices.Concat(list, list[at:]))
		}
		for _, items := range changed {
			if checkDocument(t, items) {
				valid++
			} else {
				invalid++
			}
		}
	}
	if valid < 3000 || invalid < 3000 {
		t.Errorf("%d changed documents are some and %d are none", valid, invalid)
	}
}

func TestInvalidItemsInDocuments(t *testing.T) {
	bad := invalidItems()
	for k, letters := range []string{"", "e", "()", "(e)", "ebe", "(e(n)e)b", "((((e))))", strings.Repeat("e", impl.MaxItems-1), limitLetters()[1]} {
		list := distinctItems(letters)
		if !checkDocument(t, list) {
			t.Fatalf("%s is no document", letters)
		}
		for at := range len(list) + 1 {
			for n, i := range bad {
				if (n+at+k)%3 == 0 && checkDocument(t, slices.Insert(slices.Clone(list), at, i)) {
					t.Errorf("%s with %s is a document", letters, shortly(i))
				}
				if at < len(list) {
					other := slices.Clone(list)
					other[at] = i
					if checkDocument(t, other) {
						t.Errorf("%s with %s is a document", letters, shortly(i))
					}
				}
			}
		}
	}
}

// What stands in the memory behind the end of items is no part of them.
func TestItemsBehindTheEnd(t *testing.T) {
	for _, list := range validDocuments(13, 300) {
		room := slices.Concat(list, itemsOf("bb(e"), invalidItems()[:2])
		before := clonedItems(room)
		for n := range len(room) + 1 {
			checkDocument(t, room[:n])
		}
		if !checkDocument(t, room[:len(list)]) || !sameItems(room, before) {
			t.Errorf("with room behind %s it is no document, or the room was changed", lettersOf(list))
		}
	}
}

// mostOpen returns how many blocks are open at the deepest place of a document.
func mostOpen(list []impl.Item) int {
	letters, most := lettersOf(list), 0
	for at := range len(letters) + 1 {
		most = max(most, strings.Count(letters[:at], "(")-strings.Count(letters[:at], ")"))
	}
	return most
}

// Promise 47: documents close what they open.
func TestDocumentsCloseWhatTheyOpen(t *testing.T) {
	open, end := itemOf('(', 3), itemOf(')', 0)
	roomy, full, deep := 0, 0, 0
	for _, list := range validDocuments(47, 3000) {
		nest := mostOpen(list)
		block := slices.Concat([]impl.Item{open}, list, []impl.Item{end})
		fits := len(list) <= 28 && nest < 4
		if got := checkDocument(t, block); got != fits {
			t.Errorf("%s in a block is a document: %v", lettersOf(list), got)
		}
		switch {
		case fits:
			roomy++
		case nest == 4:
			deep++
		default:
			full++
		}
		for at := range len(list) + 1 {
			if impl.DocumentValid(slices.Insert(slices.Clone(list), at, open)) || impl.DocumentValid(slices.Insert(slices.Clone(list), at, end)) {
				t.Errorf("%s is a document with one more item of a block at %d", lettersOf(list), at)
			}
		}
		for at := range block {
			if impl.DocumentValid(slices.Insert(slices.Clone(block), at, open)) {
				t.Errorf("%s in a block is a document with another one that opens at %d", lettersOf(list), at)
			}
		}
	}
	if roomy < 500 || full < 100 || deep < 100 {
		t.Errorf("there is room for %d documents, none for %d, and %d are too deep", roomy, full, deep)
	}
}

// Promise 48: depths change by blocks alone.
func TestDepthsChangeByBlocksAlone(t *testing.T) {
	blocks := 0
	for _, list := range validDocuments(48, 4000) {
		depths := impl.DepthsOf(list)
		if len(depths) != len(list) {
			t.Fatalf("%s has the depths %v", lettersOf(list), depths)
		}
		deep := 0
		for at, i := range list {
			if at > 0 && list[at-1].Kind == impl.ItemOpen {
				deep++
				blocks++
			}
			if i.Kind == impl.ItemClose {
				deep--
			}
			if depths[at] != deep {
				t.Errorf("%s has the depths %v", lettersOf(list), depths)
			}
		}
		if len(list) > 0 && (depths[0] != 0 || depths[len(list)-1] != 0) {
			t.Errorf("%s has the depths %v", lettersOf(list), depths)
		}
	}
	if blocks < 3000 {
		t.Errorf("there are only %d blocks", blocks)
	}
}

// Promise 49: tidy documents stay.
func TestTidyDocumentsStay(t *testing.T) {
	left, stay := 0, 0
	for _, list := range validDocuments(49, 4000) {
		tidy := impl.TidyItems(list)
		if again := impl.TidyItems(tidy); !sameItems(again, tidy) || !impl.DocumentValid(tidy) {
			t.Errorf("%s is tidy as %s and then as %s", lettersOf(list), lettersOf(tidy), lettersOf(again))
		}
		if !sameItems(notBlank(tidy), notBlank(list)) {
			t.Errorf("%s is tidy as %s", shortly(list), shortly(tidy))
		}
		// With a block around everything the ends are like those of blocks.
		for _, pair := range []string{"bb", "(b", "b)"} {
			if strings.Contains("("+lettersOf(tidy)+")", pair) {
				t.Errorf("%s is tidy as %s", lettersOf(list), lettersOf(tidy))
			}
		}
		untidy := slices.ContainsFunc([]string{"bb", "(b", "b)"}, func(pair string) bool { return strings.Contains("("+lettersOf(list)+")", pair) })
		if sameItems(tidy, list) == untidy {
			t.Errorf("%s is tidy as %s", lettersOf(list), lettersOf(tidy))
		}
		if len(tidy) < len(list) {
			left++
		} else {
			stay++
		}
	}
	if left < 1000 || stay < 500 {
		t.Errorf("of %d documents items are left out, and %d stay", left, stay)
	}
}

// With blank items put in wherever they do not count a document is tidy as the same one.
func TestBlankItemsThatAreLeftOut(t *testing.T) {
	for _, letters := range textsUpTo(6, "be()") {
		list := distinctItems(letters)
		if !expectedDocument(list) || letters != expectedTidy(letters) {
			continue
		}
		for n := range 4 {
			more := strings.NewReplacer("b", strings.Repeat("b", n+1), "(", "("+strings.Repeat("b", n), ")", strings.Repeat("b", n)+")").Replace(letters)
			more = strings.Repeat("b", n) + more + strings.Repeat("b", n)
			if len(more) > impl.MaxItems {
				continue
			}
			items, kept := itemsOf(more), 0
			for at := range items {
				if items[at].Kind != impl.ItemBlank {
					items[at] = notBlank(list)[kept]
					kept++
				}
			}
			if tidy := impl.TidyItems(items); !sameItems(tidy, list) {
				t.Errorf("%s is tidy as %s and not as %s", more, lettersOf(tidy), letters)
			}
		}
	}
}

// roomyItems returns items with room behind the end of every expression, and of the list.
func roomyItems(list []impl.Item) []impl.Item {
	roomy := append(make([]impl.Item, 0, len(list)+5), list...)
	for k := range roomy {
		roomy[k].Expr = append(make([]impl.Cell, 0, 90), list[k].Expr...)
	}
	return roomy
}

// checkRoom looks whether something was written behind the end of roomy items.
func checkRoom(t *testing.T, roomy []impl.Item) {
	t.Helper()
	if !sameItems(roomy[:cap(roomy)][len(roomy):], make([]impl.Item, cap(roomy)-len(roomy))) {
		t.Errorf("something stands behind %s", lettersOf(roomy))
	}
	for _, i := range roomy {
		if !slices.Equal(i.Expr[:90][len(i.Expr):], make([]impl.Cell, 90-len(i.Expr))) {
			t.Errorf("something stands behind the expression %s", shortly(i.Expr))
		}
	}
}

// spoilItems changes everything that items have, also in the memory behind the end.
func spoilItems(list []impl.Item) {
	changed := impl.Cell{Kind: 10, Word: "changed", Many: 10}
	whole := list[:cap(list)]
	for k := range whole {
		cells := whole[k].Expr[:cap(whole[k].Expr)]
		for at := range cells {
			cells[at] = changed
		}
		whole[k] = impl.Item{Kind: 10, Name: "changed", Expr: cells, Note: "changed"}
	}
}

// Results share no memory with arguments or with each other, and nothing is written to arguments.
func TestTidyItemsAreNew(t *testing.T) {
	for _, list := range validDocuments(14, 600) {
		roomy := roomyItems(list)
		first, second := impl.TidyItems(roomy), impl.TidyItems(roomy)
		want := clonedItems(second)
		spoilItems(first)
		if !sameItems(second, want) || !sameItems(roomy, list) {
			t.Fatalf("%s became %s, and what is tidy %s", shortly(list), shortly(roomy), shortly(second))
		}
		checkRoom(t, roomy)
		// The expressions of one result share no memory with each other either.
		for k := range second {
			cells := second[k].Expr[:cap(second[k].Expr)]
			for at := range cells {
				cells[at] = impl.Cell{Kind: 10}
			}
			second[k].Expr = slices.Clone(want[k].Expr)
			if !sameItems(second, want) {
				t.Fatalf("the expressions of %s share memory", shortly(want))
			}
		}
		third := impl.TidyItems(roomy)
		spoilItems(roomy)
		if !sameItems(third, want) {
			t.Fatalf("what is tidy of %s became %s", shortly(list), shortly(third))
		}
	}
	// The same memory may be the expression of several items.
	cells := written("[1, 2]")
	list := []impl.Item{{Kind: 3, Name: "a", Expr: cells}, {Kind: 3, Name: "b", Expr: cells}, {Kind: 3, Name: "c", Expr: cells[1:2]}, {Kind: 1, Expr: cells[:0]}, {Kind: 2, Expr: cells[:0]}}
	tidy := impl.TidyItems(list)
	spoilItems(tidy[:1:1])
	if !sameItems(tidy[1:], append(clonedItems(list[1:3]), list[3:]...)) || !sameItem(list[0], impl.Item{Kind: 3, Name: "a", Expr: written("[1, 2]")}) {
		t.Errorf("%s is tidy as %s", shortly(list), shortly(tidy))
	}
}

func TestDepthsAreNew(t *testing.T) {
	for _, list := range validDocuments(15, 300) {
		roomy := roomyItems(list)
		first, second := impl.DepthsOf(roomy), impl.DepthsOf(roomy)
		for k := range first {
			first[k] = 1000
		}
		_ = append(first, slices.Repeat([]int{1000}, 100)[:cap(first)-len(first)]...)
		if !slices.Equal(second, expectedDepths(list)) || !sameItems(roomy, list) {
			t.Fatalf("the depths of %s became %v", lettersOf(list), second)
		}
		checkRoom(t, roomy)
		spoilItems(roomy)
		if !slices.Equal(second, expectedDepths(list)) {
			t.Fatalf("the depths of %s became %v", lettersOf(list), second)
		}
	}
}
