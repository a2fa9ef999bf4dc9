package tests

import (
	"slices"
	"strings"
	"testing"

	"loop.example/configformatter/impl"
)

func TestNotesAreWrappedByHand(t *testing.T) {
	for _, c := range []struct {
		note  string
		width int
		lines []string
	}{
		{"", 1, nil}, {"", 40, nil}, {"a", 1, []string{"a"}}, {"a", 40, []string{"a"}}, {"ab", 1, nil}, {"ab", 2, []string{"ab"}},
		{"a b", 1, []string{"a", "b"}}, {"a b", 2, []string{"a", "b"}}, {"a b", 3, []string{"a b"}}, {"a b", 40, []string{"a b"}}, {"ab c", 3, []string{"ab", "c"}}, {"ab c", 1, nil}, {"c ab", 1, nil},
		// Several spaces stand between words, and one in a line.
		{"a  b", 3, []string{"a b"}}, {"a   b", 40, []string{"a b"}}, {"a  b", 2, []string{"a", "b"}}, {"a  b   c    d", 5, []string{"a b c", "d"}}, {"a" + strings.Repeat(" ", 58) + "b", 3, []string{"a b"}}, {"a" + strings.Repeat(" ", 58) + "b", 2, []string{"a", "b"}}, {"a" + strings.Repeat(" ", 59) + "b", 3, nil},
		// The words of the example, as lines that cost least.
		{"aaa bb cc ddddd", 6, []string{"aaa", "bb cc", "ddddd"}}, {"aaa bb  cc ddddd", 6, []string{"aaa", "bb cc", "ddddd"}}, {"aaa   bb cc   ddddd", 5, []string{"aaa", "bb cc", "ddddd"}}, {"aaa bb cc ddddd", 4, nil}, {"aaa bb cc ddddd", 15, []string{"aaa bb cc ddddd"}}, {"aaa bb cc ddddd", 14, []string{"aaa bb cc", "ddddd"}}, {"aa b  cc d e fff", 4, []string{"aa b", "cc", "d e", "fff"}}, {"aaaaa bb cc ddddd e f ggggg h", 8, []string{"aaaaa", "bb cc", "ddddd e", "f ggggg", "h"}},
		// A word that is longer than the width, wherever it stands.
		{"toolong", 6, nil}, {"toolong", 7, []string{"toolong"}}, {"a toolong b", 6, nil}, {"toolong a b", 6, nil}, {"a b toolong", 6, nil}, {strings.Repeat("w", 40), 40, []string{strings.Repeat("w", 40)}}, {strings.Repeat("w", 41), 40, nil}, {strings.Repeat("w", 41), 41, nil}, {strings.Repeat("w", 60), 40, nil}, {strings.Repeat("w", 40) + " " + strings.Repeat("v", 19), 40, []string{strings.Repeat("w", 40), strings.Repeat("v", 19)}},
		// What is no note.
		{" ", 6, nil}, {" a", 6, nil}, {"a ", 6, nil}, {" a ", 6, nil}, {"a\n", 6, nil}, {"a\nb", 6, nil}, {"\n", 6, nil}, {"a\tb", 6, nil}, {"a\x7fb", 6, nil}, {"a\x1fb", 6, nil}, {"a\xc2\xa0b", 6, nil}, {"a\xc2\x85b", 6, nil}, {"a\x00b", 6, nil}, {"\xff", 6, nil},
		// All bytes that a note has are parts of words, but for the space.
		{"# \"x\" \\ {=}", 40, []string{"# \"x\" \\ {=}"}}, {"# \"x\" \\ {=}", 3, []string{"#", "\"x\"", "\\", "{=}"}}, {"! ~", 1, []string{"!", "~"}},
		// MaxWords words, and one more; notes of MaxNote bytes, and of one more.
		{strings.Repeat("a ", 19) + "b", 39, []string{strings.Repeat("a ", 19) + "b"}}, {strings.Repeat("a ", 19) + "b", 38, []string{strings.Repeat("a ", 18) + "a", "b"}}, {strings.Repeat("a ", 20) + "b", 40, nil}, {strings.Repeat("a ", 20) + "b", 1, nil}, {strings.Repeat("a  ", 19) + "bcd", 3, append(slices.Repeat([]string{"a a"}, 9), "a", "bcd")}, {strings.Repeat("a  ", 19) + "bcde", 4, nil}, {strings.Repeat("ab ", 19) + "bcd", 3, append(slices.Repeat([]string{"ab"}, 19), "bcd")}, {strings.Repeat("a ", 29) + "bc", 40, nil},
		// Widths that are none.
		{"a b", 0, nil}, {"a b", -1, nil}, {"a b", 41, nil}, {"", 0, nil}, {"", 41, nil}, {"a", 1000, nil},
	} {
		if got := impl.WrapText(c.note, c.width); !slices.Equal(got, c.lines) {
			t.Errorf("%q is wrapped at the width %d as %q and not as %q", c.note, c.width, got, c.lines)
		}
		if checkWrappedNote(t, c.note, c.width) != (len(c.lines) > 0) {
			t.Errorf("the model is wrong: %q at the width %d", c.note, c.width)
		}
	}
}

// All short texts, of which many are notes, with all small widths.
func TestShortNotesAreWrapped(t *testing.T) {
	wrapped, others := 0, 0
	for _, note := range slices.Concat(textsUpTo(11, "a "), textsUpTo(6, "ab \n"), textsUpTo(4, "!~ \x7f\t\x1f"), textsUpTo(4, "a \xc2\xa0\x85")) {
		for width := range 7 {
			if checkWrappedNote(t, note, width) {
				wrapped++
			} else {
				others++
			}
		}
	}
	if wrapped < 5000 || others < 5000 {
		t.Errorf("%d short notes are wrapped, and %d are not", wrapped, others)
	}
}

// Every byte at every place of some notes; those that are no notes have no lines, though their parts would fit.
func TestBytesOfWrappedNotes(t *testing.T) {
	for _, note := range []string{"a", "ab", "a b", "aa bb cc", "a  b", strings.Repeat("abc ", 14) + "abcd"} {
		for at := range len(note) {
			for b := range 256 {
				changed := []byte(note)
				changed[at] = byte(b)
				for _, width := range []int{3, 9, impl.MaxWidth} {
					if checkWrappedNote(t, string(changed), width) && (b < 32 || b > 126) {
						t.Fatalf("%q is wrapped", changed)
					}
				}
			}
		}
	}
}

// Notes of all lengths, up to MaxNote bytes and beyond, of words of one size, with all widths.
func TestLengthsOfWrappedNotes(t *testing.T) {
	for n := 1; n <= impl.MaxNote+3; n++ {
		for size := 1; size <= impl.MaxWidth+1; size++ {
			note := []byte(strings.Repeat("w", n))
			words := 1
			// The last byte is no space.
			for at := size; at < n-1; at += size + 1 {
				note[at] = ' '
				words++
			}
			longest := 0
			for _, word := range strings.Split(string(note), " ") {
				longest = max(longest, len(word))
			}
			for width := 1; width <= impl.MaxWidth+1; width++ {
				fits := n <= impl.MaxNote && words <= impl.MaxWords && longest <= width && width <= impl.MaxWidth
				if checkWrappedNote(t, string(note), width) != fits {
					t.Fatalf("%q is wrapped at the width %d, or not", note, width)
				}
			}
		}
	}
	for _, n := range []int{100, impl.MaxText, impl.MaxText + 1, 1000000} {
		for _, note := range []string{strings.Repeat("w", n), "w" + strings.Repeat(" ", n) + "w", strings.Repeat("w ", n) + "w"} {
			if list := impl.WrapText(note, 5); len(list) > 0 {
				t.Errorf("a note of %d bytes is wrapped as %.80q", len(note), list)
			}
		}
	}
}

// Of up to 30 words that a note can have, at most MaxWords are wrapped.
func TestNumbersOfWordsOfNotes(t *testing.T) {
	for n := 1; n <= impl.MaxNote/2; n++ {
		note := strings.TrimSuffix(strings.Repeat("a ", n), " ")
		for width := 1; width <= impl.MaxWidth; width++ {
			if checkWrappedNote(t, note, width) != (n <= impl.MaxWords) {
				t.Errorf("%d words are wrapped at the width %d, or not", n, width)
			}
		}
	}
}

// Many notes with one and with several spaces between words, with all widths.
func TestManyNotesAreWrapped(t *testing.T) {
	lines, long := 0, 0
	for k, c := range noteCases(154, 2500) {
		if !checkWrappedNote(t, c.note, c.width) && c.note != "" {
			t.Fatalf("%q is not wrapped at the width %d", c.note, c.width)
		}
		if len(impl.WrapText(c.note, c.width)) > 2 {
			lines++
		}
		if len(c.note) > impl.MaxNote-3 {
			long++
		}
		if k%7 > 0 {
			continue
		}
		for width := range impl.MaxWidth + 2 {
			checkWrappedNote(t, c.note, width)
		}
		for _, note := range []string{" " + c.note, c.note + " ", c.note + "\n", "\n" + c.note, c.note + "\t", strings.ReplaceAll(c.note, " ", "\n"), strings.ReplaceAll(c.note, " ", "\t"), c.note + strings.Repeat(" ", impl.MaxNote) + "a"} {
			if note != c.note && checkWrappedNote(t, note, c.width) {
				t.Fatalf("%q is wrapped at the width %d", note, c.width)
			}
		}
	}
	if lines < 1500 || long < 500 {
		t.Errorf("%d notes have several lines, and %d are long", lines, long)
	}
}

// The lines of a note are new, also those of the same note.
func TestLinesOfNotesAreNew(t *testing.T) {
	for _, c := range noteCases(155, 200) {
		list := impl.WrapText(c.note, c.width)
		other := impl.WrapText(c.note, c.width)
		whole := other[:cap(other)]
		for k := range whole {
			whole[k] = "other"
		}
		if !slices.Equal(list, expectedWrappedNote(c.note, c.width)) {
			t.Fatalf("the lines of %q became %q", c.note, list)
		}
	}
}
