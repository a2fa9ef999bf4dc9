package tests

import (
	"math/rand"
	"slices"
	"strings"
	"testing"

	"loop.example/configformatter/impl"
)

func TestLineEditsByHand(t *testing.T) {
	for _, c := range []struct {
		a, b string
		edit []change
	}{
		// Equal texts.
		{"", "", nil}, {"a", "a", nil}, {"a\n", "a\n", nil}, {"a\nb\nc\n", "a\nb\nc\n", nil}, {"\n", "\n", nil}, {"\n\n", "\n\n", nil},
		// The first line, one in the middle, the last one, and all.
		{"a\nb\nc\n", "x\nb\nc\n", []change{{0, 2, "x\n"}}}, {"a\nb\nc\n", "a\nx\nc\n", []change{{2, 4, "x\n"}}}, {"a\nb\nc\n", "a\nb\nx\n", []change{{4, 6, "x\n"}}}, {"a\nb\nc\n", "x\ny\nz\n", []change{{0, 6, "x\ny\nz\n"}}}, {"a\nb\nc\n", "x\nb\ny\n", []change{{0, 6, "x\nb\ny\n"}}}, {"a\nb\nc\nd\n", "a\nx\ny\nz\nd\n", []change{{2, 6, "x\ny\nz\n"}}},
		// Lines that are put in, and that are removed.
		{"a\nc\n", "a\nb\nc\n", []change{{2, 2, "b\n"}}}, {"a\nb\nc\n", "a\nc\n", []change{{2, 4, ""}}}, {"b\n", "a\nb\n", []change{{0, 0, "a\n"}}}, {"a\nb\n", "b\n", []change{{0, 2, ""}}}, {"a\n", "a\nb\n", []change{{2, 2, "b\n"}}}, {"a\nb\n", "a\n", []change{{2, 4, ""}}}, {"a\n", "a\nb", []change{{2, 2, "b"}}}, {"a\nb", "a\n", []change{{2, 3, ""}}},
		// The empty text and another one.
		{"", "a", []change{{0, 0, "a"}}}, {"a", "", []change{{0, 1, ""}}}, {"", "\n", []change{{0, 0, "\n"}}}, {"\n", "", []change{{0, 1, ""}}}, {"", "a\nb\n", []change{{0, 0, "a\nb\n"}}}, {"a\nb\n", "", []change{{0, 4, ""}}},
		// Only whole lines stay, whatever else both have in common.
		{"abc\n", "abd\n", []change{{0, 4, "abd\n"}}}, {"abc\n", "xbc\n", []change{{0, 4, "xbc\n"}}}, {"a\nab\nb\n", "a\nabb\nb\n", []change{{2, 5, "abb\n"}}}, {"ab\n", "b\n", []change{{0, 3, "b\n"}}}, {"b\n", "ab\n", []change{{0, 2, "ab\n"}}}, {"x\nab", "y\nb", []change{{0, 4, "y\nb"}}}, {"ab", "b", []change{{0, 2, "b"}}}, {"ab", "a", []change{{0, 2, "a"}}},
		// A line with a line end is another one than without it.
		{"a", "a\n", []change{{0, 1, "a\n"}}}, {"a\n", "a", []change{{0, 2, "a"}}}, {"a\nb", "a\nb\n", []change{{2, 3, "b\n"}}}, {"a\nb\n", "a\nb", []change{{2, 4, "b"}}}, {"a\nb", "a\nb\nc", []change{{2, 3, "b\nc"}}}, {"a\nb\nc", "a\nb", []change{{2, 5, "b"}}}, {"b\na", "a\n", []change{{0, 3, "a\n"}}}, {"a\n", "a\na", []change{{2, 2, "a"}}}, {"a", "a\na", []change{{0, 0, "a\n"}}}, {"a\na", "a", []change{{0, 2, ""}}},
		// The last line is a whole one also if no line end stands behind it.
		{"a\nb\nc", "a\nx\nc", []change{{2, 4, "x\n"}}}, {"x\nb", "b", []change{{0, 2, ""}}}, {"b", "x\nb", []change{{0, 0, "x\n"}}}, {"a\nb", "x\nb", []change{{0, 2, "x\n"}}}, {"a\nb", "a\nx", []change{{2, 3, "x"}}}, {"a", "b", []change{{0, 1, "b"}}},
		// The same lines more often: those at the beginning stay first.
		{"a\n", "a\na\n", []change{{2, 2, "a\n"}}}, {"a\na\n", "a\n", []change{{2, 4, ""}}}, {"a\na\n", "a\na\na\na\n", []change{{4, 4, "a\na\n"}}}, {"a\na\na\na\n", "a\na\n", []change{{4, 8, ""}}}, {"a\nb\na\n", "a\nb\na\nb\na\n", []change{{6, 6, "b\na\n"}}}, {"a\nb\na\nb\na\n", "a\nb\na\n", []change{{6, 10, ""}}}, {"a\nb\n", "a\nb\nb\n", []change{{4, 4, "b\n"}}}, {"a\nb\nb\n", "a\nb\n", []change{{4, 6, ""}}}, {"a\na\nb\n", "a\nb\n", []change{{2, 4, ""}}}, {"a\nb\n", "a\na\nb\n", []change{{2, 2, "a\n"}}},
		{"\n", "\n\n", []change{{1, 1, "\n"}}}, {"\n\n", "\n", []change{{1, 2, ""}}}, {"\n\n\n", "\n", []change{{1, 3, ""}}}, {"a\n\nb\n", "a\nb\n", []change{{2, 3, ""}}}, {"a\nb\n", "a\n\nb\n", []change{{2, 2, "\n"}}}, {"a\n\n", "a\n", []change{{2, 3, ""}}}, {"\na", "\n\na", []change{{1, 1, "\n"}}},
		// Texts that are not valid.
		{"a\tb", "a", nil}, {"a", "a\tb", nil}, {"a\tb", "a\tb", nil}, {"a\tb", "", nil}, {"", "\x7f", nil}, {"a\tb", "a\tc", nil}, {"\xc3\xa4", "a", nil},
	} {
		want := editsOf(c.edit)
		if got := impl.LineEdits(c.a, c.b); !slices.Equal(got, want) {
			t.Errorf("the edits of lines from %q to %q are %+v and not %+v", c.a, c.b, got, want)
		}
		if checkLineEdits(t, c.a, c.b) != (len(want) > 0) {
			t.Errorf("the model is wrong: the edits of lines from %q to %q", c.a, c.b)
		}
	}
}

// All pairs of small texts.
func TestLineEditsOfSmallTexts(t *testing.T) {
	for _, texts := range [][]string{textsUpTo(5, "a \n"), textsUpTo(8, "a\n"), smallTexts()[1093:]} {
		for _, a := range texts {
			for _, b := range texts {
				if checkLineEdits(t, a, b) != (a != b) {
					t.Fatalf("from %q to %q there is an edit, or none", a, b)
				}
			}
		}
	}
}

// linesOfLetters returns a text with a line for every letter; the last one may have no line end.
func linesOfLetters(letters string, end string) string {
	return strings.Join(strings.Split(letters, ""), " x\n") + end
}

// All pairs of texts of few lines, of which many are the same.
func TestLineEditsOfFewLines(t *testing.T) {
	for _, ends := range [][2]string{{"\n", "\n"}, {"", ""}, {"\n", ""}, {"", "\n"}} {
		for _, a := range textsUpTo(5, "ab") {
			for _, b := range textsUpTo(5, "ab") {
				checkLineEdits(t, linesOfLetters(a, ends[0]), linesOfLetters(b, ends[1]))
			}
		}
	}
}

// Texts whose lines are changed at every place, in all numbers.
func TestLineEditsOfChangedLines(t *testing.T) {
	r := rand.New(rand.NewSource(166))
	for range 3000 {
		s := randomText(r, r.Intn(120))
		lines := strings.SplitAfter(s, "\n")
		from := r.Intn(len(lines))
		to := from + r.Intn(len(lines)-from+1)
		for _, more := range [][]string{nil, {"new\n"}, {"\n"}, {"a\n", "b\n"}, {lines[from]}, {lines[from], lines[from]}, {"new"}} {
			other := strings.Join(slices.Concat(lines[:from], more, lines[to:]), "")
			checkLineEdits(t, s, other)
			checkLineEdits(t, other, s)
		}
		checkLineEdits(t, s, randomText(r, r.Intn(120)))
	}
}

// Texts of MaxText bytes have edits of lines, and longer ones have none.
func TestLineEditsOfLongTexts(t *testing.T) {
	long := append(fullTexts(), "", "a", "\n", strings.Repeat("abc\n", impl.MaxText/8), strings.Repeat("a", impl.MaxText-4)+"\nabc", strings.Repeat("abc\n", impl.MaxText/4-1)+"abd\n", "abd\n"+strings.Repeat("abc\n", impl.MaxText/4-1), strings.Repeat("abc\n", impl.MaxText/8)+"abd\n"+strings.Repeat("abc\n", impl.MaxText/8-1))
	for _, a := range long {
		for _, b := range long {
			if checkLineEdits(t, a, b) != (a != b) {
				t.Fatalf("from %.20q with %d bytes to %.20q with %d there is an edit, or none", a, len(a), b, len(b))
			}
		}
	}
	for k, s := range invalidTexts() {
		for _, other := range []string{"", "a", "a\nb", s, long[k%len(long)]} {
			if list := append(impl.LineEdits(s, other), impl.LineEdits(other, s)...); len(list) > 0 {
				t.Fatalf("between %.20q with %d bytes and %.20q there are the edits %+v", s, len(s), other, shortEdits(list))
			}
		}
	}
}
