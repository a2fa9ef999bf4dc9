package tests

import (
	"math/rand"
	"regexp"
	"slices"
	"strings"
	"testing"

	"loop.example/configformatter/impl"
)

// entriesNextTo returns an entry and all entries that stand next to each other with it.
func entriesNextTo(list []impl.Item, at int) []impl.Item {
	letters := lettersOf(list)
	before := len(strings.TrimRight(letters[:at], "e"))
	behind := len(letters) - len(strings.TrimLeft(letters[at:], "e"))
	return list[before:behind]
}

// expectedWidths returns the width of every item of a document, for each entry by a look at its neighbours.
func expectedWidths(list []impl.Item) []int {
	if !expectedDocument(list) {
		return nil
	}
	widths := make([]int, len(list))
	for at, i := range list {
		if i.Kind != impl.ItemEntry {
			continue
		}
		for _, other := range entriesNextTo(list, at) {
			widths[at] = max(widths[at], len(other.Name))
		}
	}
	return widths
}

// expectedAlignedLines returns the lines of a document, whatever room they need: those that are not aligned, with more spaces before the first =.
func expectedAlignedLines(list []impl.Item) []string {
	var lines []string
	depths := expectedDepths(list)
	for at, width := range expectedWidths(list) {
		line := expectedItemLine(list[at], depths[at])
		if list[at].Kind == impl.ItemEntry {
			line = strings.Replace(line, "=", strings.Repeat(" ", width-len(list[at].Name))+"=", 1)
		}
		lines = append(lines, line)
	}
	return lines
}

// expectedAligned returns the aligned text of a document.
func expectedAligned(list []impl.Item) (string, bool) {
	if !expectedDocument(list) {
		return "", false
	}
	s := textOfLines(expectedAlignedLines(list))
	if len(s) > 20000 {
		return "", false
	}
	return s, true
}

// beforeSign is what stands before the = of the line of an entry.
var beforeSign = regexp.MustCompile(`\A *[a-z][a-z0-9_]* +=`)

// expectedColumns returns the columns of a document by its aligned text.
func expectedColumns(list []impl.Item) []int {
	s, _ := expectedAligned(list)
	var columns []int
	for at, line := range expectedLines(s) {
		column := -1
		if list[at].Kind == impl.ItemEntry {
			column = len(beforeSign.FindString(line)) - 1
		}
		columns = append(columns, column)
	}
	return columns
}

// checkAligned compares what all functions return for items with what is expected, and looks whether the items stay. It returns whether they have an aligned text.
func checkAligned(t *testing.T, list []impl.Item) bool {
	t.Helper()
	before := clonedItems(list)
	if got, want := impl.AlignWidths(list), expectedWidths(list); !slices.Equal(got, want) {
		t.Fatalf("the widths of %d items %.40s are %v and not %v: %s", len(list), lettersOf(list), got, want, shortly(list))
	}
	want, fits := expectedAligned(list)
	got, ok := impl.AlignDocument(list)
	if got != want || ok != fits {
		t.Fatalf("the aligned text of %d items %.40s is %.500q, %v, and not %.500q", len(list), lettersOf(list), got, ok, want)
	}
	if got, want := impl.AlignColumns(list), expectedColumns(list); !slices.Equal(got, want) {
		t.Fatalf("the columns of %d items %.40s are %v and not %v: %s", len(list), lettersOf(list), got, want, shortly(list))
	}
	if !sameItems(list, before) {
		t.Fatalf("%s became %s", shortly(before), shortly(list))
	}
	return ok
}

// checkNotAligned looks that items that are no document have neither widths nor columns nor an aligned text.
func checkNotAligned(t *testing.T, list []impl.Item) {
	t.Helper()
	if impl.DocumentValid(list) {
		t.Fatalf("%d items %.40s are a document", len(list), lettersOf(list))
	}
	s, ok := impl.AlignDocument(list)
	if widths, columns := impl.AlignWidths(list), impl.AlignColumns(list); s != "" || ok || len(widths) > 0 || len(columns) > 0 {
		t.Fatalf("%d items %.40s have the widths %.80v, the columns %.80v and the text %.300q, %v", len(list), lettersOf(list), widths, columns, s, ok)
	}
	checkAligned(t, list)
}

// sizedItems returns a valid item for every letter, where those of sizeLetters stand for entries whose names have so many bytes.
func sizedItems(letters string) []impl.Item {
	list := itemsOf(letters)
	for at := range letters {
		size := strings.IndexByte(sizeLetters, letters[at])
		if size < 1 {
			continue
		}
		list[at] = itemOf('e', len(letters)+at)
		list[at].Name = "vwxyz"[at%5:at%5+1] + strings.Repeat("_", size-1)
	}
	return list
}

// sizeLetters has at every place, from 1 on, the letter of an entry whose name has so many bytes: digits, and t, u and v for 10, 11 and 12.
const sizeLetters = "?123456789tuv"

// withSizes returns letters with any size for every entry; most is the greatest one.
func withSizes(r *rand.Rand, letters string, most int) string {
	sized := []byte(letters)
	for at := range sized {
		if sized[at] == 'e' {
			sized[at] = sizeLetters[1+r.Intn(most)]
		}
	}
	return string(sized)
}

// sizedDocuments returns documents of all sizes, whose names have all lengths.
func sizedDocuments(seed int64, many int) [][]impl.Item {
	r := rand.New(rand.NewSource(seed))
	weights := []string{"be()", "e", "eeeb", "eeeeeen", "eeee(e)", "bne()", "eee((()"}
	var list [][]impl.Item
	for k := range many {
		letters := randomLetters(r, k%(impl.MaxItems+1), r.Intn(impl.MaxNest+1), weights[r.Intn(len(weights))])
		list = append(list, sizedItems(withSizes(r, letters, 1+r.Intn(impl.MaxName))))
	}
	return append(list, validDocuments(seed, many/4)...)
}

// alignedOfBytes returns a document whose aligned text has so many bytes, with all entries in so many blocks, of which the one with the number long has a name of MaxName bytes, and all others names of one byte.
func alignedOfBytes(t *testing.T, n int, blocks int, long int) []impl.Item {
	t.Helper()
	for bytes := n; bytes > 0; bytes-- {
		list := documentOfBytes(bytes, blocks)
		entries := len(list) - 2*blocks
		list[blocks+long%entries].Name = strings.Repeat("n", impl.MaxName)
		if bytes+entries*(impl.MaxName-1) == n {
			return list
		}
	}
	t.Fatalf("there is no document of %d bytes in %d blocks", n, blocks)
	return nil
}
