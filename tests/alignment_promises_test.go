package tests

import (
	"math/rand"
	"slices"
	"strings"
	"testing"

	"loop.example/configformatter/impl"
)

// alignedText returns the aligned text of a document that has one.
func alignedText(t *testing.T, list []impl.Item) string {
	t.Helper()
	s, ok := impl.AlignDocument(list)
	if !ok {
		t.Fatalf("%s %s has no aligned text", lettersOf(list), shortly(list))
	}
	return s
}

// promisedDocuments returns documents that all have an aligned text: of all sizes, small ones, and ones with a text of MaxText bytes.
func promisedDocuments(t *testing.T, seed int64, many int) [][]impl.Item {
	t.Helper()
	list := sizedDocuments(seed, many)
	for _, letters := range textsUpTo(5, "14b()") {
		if items := sizedItems(letters); expectedDocument(items) {
			list = append(list, items)
		}
	}
	for blocks := range impl.MaxNest + 1 {
		list = append(list, alignedOfBytes(t, impl.MaxText, blocks, 0), alignedOfBytes(t, impl.MaxText-1, blocks, 5))
	}
	return list
}

// Promise 5: aligned documents can be read.
func TestAlignedDocumentsCanBeRead(t *testing.T) {
	changed, deep := 0, 0
	for _, list := range promisedDocuments(t, 5, 3000) {
		s := alignedText(t, list)
		back, fault := impl.ReadDocument(s)
		if !sameItems(back, list) || fault != -1 {
			t.Fatalf("%.500q is read as %s, %d", s, shortly(back), fault)
		}
		lines, columns := impl.LinesOf(s), impl.AlignColumns(list)
		if len(lines) != len(list) || len(columns) != len(list) || strings.Count(s, "\n") != len(list) {
			t.Fatalf("%s with %d items has %d lines and the columns %v", lettersOf(list), len(list), len(lines), columns)
		}
		for k, i := range list {
			checkRead(t, lines[k], i)
			if i.Kind != impl.ItemEntry {
				continue
			}
			column := columns[k]
			if column < 0 || column >= len(lines[k]) || lines[k][column] != '=' || strings.Trim(lines[k][:column], " ") != i.Name {
				t.Fatalf("in %q = should stand at %d", lines[k], column)
			}
			if !strings.HasPrefix(lines[k][column:], "= "+impl.ExprText(i.Expr)) || lines[k][column-1] != ' ' {
				t.Fatalf("in %q no expression stands behind the column %d", lines[k], column)
			}
		}
		if printed, _ := impl.PrintDocument(list); printed != s {
			changed++
		}
		if mostOpen(list) == impl.MaxNest {
			deep++
		}
	}
	if changed < 1000 || deep < 100 {
		t.Errorf("%d documents have spaces, and %d are deep", changed, deep)
	}
}

// Promise 53: aligned entries have the same width.
func TestAlignedEntriesHaveTheSameWidth(t *testing.T) {
	for _, list := range promisedDocuments(t, 53, 3000) {
		widths := impl.AlignWidths(list)
		if len(widths) != len(list) {
			t.Fatalf("the widths of %s are %v", lettersOf(list), widths)
		}
		for k, i := range list {
			if (i.Kind == impl.ItemEntry) != (widths[k] > 0) || widths[k] < 0 || widths[k] > impl.MaxName {
				t.Fatalf("the widths of %s are %v", lettersOf(list), widths)
			}
			if i.Kind != impl.ItemEntry {
				continue
			}
			if widths[k] < len(i.Name) || k > 0 && list[k-1].Kind == impl.ItemEntry && widths[k] != widths[k-1] {
				t.Fatalf("the widths of %s are %v, and a name has %d bytes", lettersOf(list), widths, len(i.Name))
			}
			// None is greater than it must be.
			if !slices.ContainsFunc(entriesNextTo(list, k), func(other impl.Item) bool { return len(other.Name) == widths[k] }) {
				t.Fatalf("the widths of %s are %v, and no name is as long", lettersOf(list), widths)
			}
		}
	}
}

// Promise 54: columns are those of entries.
func TestColumnsAreThoseOfEntries(t *testing.T) {
	for _, list := range promisedDocuments(t, 54, 3000) {
		widths, columns, depths := impl.AlignWidths(list), impl.AlignColumns(list), impl.DepthsOf(list)
		if len(columns) != len(list) {
			t.Fatalf("the columns of %s are %v", lettersOf(list), columns)
		}
		for k, i := range list {
			want := -1
			if i.Kind == impl.ItemEntry {
				// The spaces before the name, the name with those behind it, and one more.
				want = 2*depths[k] + widths[k] + 1
			}
			if columns[k] != want {
				t.Fatalf("the columns of %s are %v, and the widths %v", lettersOf(list), columns, widths)
			}
			if k > 0 && i.Kind == impl.ItemEntry && list[k-1].Kind == impl.ItemEntry && columns[k] != columns[k-1] {
				t.Fatalf("the columns of %s are %v", lettersOf(list), columns)
			}
		}
	}
}

// Promise 99: aligned documents format alike.
func TestAlignedDocumentsFormatAlike(t *testing.T) {
	r := rand.New(rand.NewSource(142))
	for _, list := range promisedDocuments(t, 99, 2000) {
		s := alignedText(t, list)
		printed, ok := impl.PrintDocument(list)
		if !ok {
			t.Fatalf("%s has an aligned text, and no other", lettersOf(list))
		}
		want, wantOk := impl.FormatDocument(printed)
		if got, ok := impl.FormatDocument(s); got != want || ok != wantOk || !ok {
			t.Fatalf("%.500q is formatted as %.500q, %v, and not as %.500q", s, got, ok, want)
		}
		// It does not matter how the document was written before it was aligned, if there was room for it.
		again, fault := impl.ReadDocument(textOfLines(randomLines(r, list)))
		if fault == -1 && alignedText(t, again) != s {
			t.Fatalf("%s is aligned as %.500q and as %.500q", lettersOf(list), s, alignedText(t, again))
		}
	}
}

// Promises 5 and 99: aligning what has been read from an aligned text changes nothing.
func TestAlignedDocumentsStay(t *testing.T) {
	for _, list := range promisedDocuments(t, 143, 1500) {
		s := alignedText(t, list)
		again, _ := impl.ReadDocument(s)
		if got := alignedText(t, again); got != s || !slices.Equal(impl.AlignColumns(again), impl.AlignColumns(list)) {
			t.Fatalf("%.500q is aligned as %.500q", s, got)
		}
	}
}

// Of an aligned text every line is the printed one, but for spaces behind the names of entries.
func TestOnlySpacesAreAdded(t *testing.T) {
	for _, list := range promisedDocuments(t, 144, 2000) {
		printed, _ := impl.PrintDocument(list)
		before, lines, widths := impl.LinesOf(printed), impl.LinesOf(alignedText(t, list)), impl.AlignWidths(list)
		for k, i := range list {
			if i.Kind != impl.ItemEntry {
				if lines[k] != before[k] {
					t.Fatalf("the line %q is aligned as %q", before[k], lines[k])
				}
				continue
			}
			end := strings.Index(before[k], i.Name) + len(i.Name)
			if lines[k] != before[k][:end]+strings.Repeat(" ", widths[k]-len(i.Name))+before[k][end:] {
				t.Fatalf("the line %q is aligned as %q", before[k], lines[k])
			}
		}
	}
}
