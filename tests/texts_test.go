package tests

import (
	"math"
	"slices"
	"strings"
	"testing"

	"loop.example/configformatter/impl"
)

// textsUpTo returns all texts of at most n bytes of an alphabet, beginning with the empty one.
func textsUpTo(n int, alphabet string) []string {
	texts := []string{""}
	from := 0
	for range n {
		end := len(texts)
		for _, s := range texts[from:end] {
			for k := range len(alphabet) {
				texts = append(texts, s+alphabet[k:k+1])
			}
		}
		from = end
	}
	return texts
}

// smallTexts returns all short texts of a letter, spaces and line ends, and some longer ones.
func smallTexts() []string {
	return append(textsUpTo(6, "a \n"),
		"a = 1\nb = 2\n",
		"server {\n  port = 80 # the usual one\n}\n\n\nname = \"x\\\\y~\"",
		"\n\n\nlast",
		" !~\n~! ",
		strings.Repeat("\n", 40),
		strings.Repeat("some words\n", 40),
	)
}

// forbiddenBytes returns every byte that no text may have.
func forbiddenBytes() []string {
	var list []string
	for b := range 256 {
		if b != 10 && (b < 32 || b > 126) {
			list = append(list, string([]byte{byte(b)}))
		}
	}
	return list
}

// fullTexts returns valid texts of exactly MaxText bytes.
func fullTexts() []string {
	return []string{
		strings.Repeat("a", impl.MaxText),
		strings.Repeat("\n", impl.MaxText),
		strings.Repeat("a", impl.MaxText-1) + "\n",
		"\n" + strings.Repeat("a", impl.MaxText-1),
		strings.Repeat("abc\n", impl.MaxText/4),
	}
}

// invalidTexts returns texts that no function takes.
func invalidTexts() []string {
	list := []string{"\xc3\xa4", "a\r\nb", strings.Repeat("a", impl.MaxText-1) + "\x01"}
	for _, b := range forbiddenBytes() {
		list = append(list, b, "a"+b, b+"\n", "a\n"+b+"\nb")
	}
	for _, s := range fullTexts() {
		list = append(list, s+"a", s+"\n", s+s)
	}
	return list
}

func TestMaxText(t *testing.T) {
	if impl.MaxText != 20000 {
		t.Fatal(impl.MaxText)
	}
}

// Promise 13: texts have plain bytes.
func TestTextsHavePlainBytes(t *testing.T) {
	for b := range 256 {
		want := b == 10 || b >= 32 && b <= 126
		for _, around := range []string{"", "a", "\n"} {
			s := around + string([]byte{byte(b)}) + around
			if impl.TextValid(s) != want {
				t.Errorf("TextValid(%q) is %v", s, !want)
			}
		}
	}
	for _, s := range smallTexts() {
		for from := range len(s) + 1 {
			for to := from; to <= len(s); to++ {
				if !impl.TextValid(s[from:to]) {
					t.Errorf("the part %q of %q is not valid", s[from:to], s)
				}
			}
		}
		if impl.TextValid(s + "\x01") {
			t.Errorf("%q is valid with the byte 1 behind it", s)
		}
	}
}

func TestTextsHaveALimit(t *testing.T) {
	for _, s := range fullTexts() {
		if !impl.TextValid(s) || !impl.TextValid(s[1:]) || !impl.TextValid(s[:len(s)-1]) {
			t.Errorf("%.20q of %d bytes or a part of it is not valid", s, len(s))
		}
		if impl.TextValid(s[1:] + "\x01") {
			t.Errorf("%.20q is valid with the byte 1 behind it", s)
		}
	}
	for _, s := range invalidTexts() {
		if impl.TextValid(s) {
			t.Errorf("%.20q of %d bytes is valid", s, len(s))
		}
	}
}

func TestLinesOf(t *testing.T) {
	cases := []struct {
		text  string
		lines []string
	}{
		{"", nil},
		{"a", []string{"a"}},
		{"a\n", []string{"a"}},
		{"a\nb", []string{"a", "b"}},
		{"a\nb\n", []string{"a", "b"}},
		{"\n", []string{""}},
		{"\n\n\n", []string{"", "", ""}},
		{"\na", []string{"", "a"}},
		{"a\n\n", []string{"a", ""}},
		{"a\n\nb", []string{"a", "", "b"}},
		{"a\n ", []string{"a", " "}},
	}
	for _, c := range cases {
		if got := impl.LinesOf(c.text); !slices.Equal(got, c.lines) {
			t.Errorf("LinesOf(%q) is %q, not %q", c.text, got, c.lines)
		}
	}
	for _, s := range invalidTexts() {
		if got := impl.LinesOf(s); len(got) != 0 {
			t.Errorf("LinesOf(%.20q) of %d bytes has %d lines", s, len(s), len(got))
		}
	}
}

// Promise 14: lines make texts.
func TestLinesMakeTexts(t *testing.T) {
	for _, s := range append(smallTexts(), fullTexts()...) {
		lines := impl.LinesOf(s)
		for _, line := range lines {
			if strings.Contains(line, "\n") {
				t.Errorf("the line %q of %.20q has a line end", line, s)
			}
		}
		want, wantOK := s, true
		if s != "" && !strings.HasSuffix(s, "\n") {
			want += "\n"
		}
		if len(want) > impl.MaxText {
			want, wantOK = "", false
		}
		if got, ok := impl.LinesText(lines); got != want || ok != wantOK {
			t.Errorf("LinesText(LinesOf(%.20q)) is %.20q of %d bytes, %v", s, got, len(got), ok)
		}
	}
}

// Promise 15: texts have their lines.
func TestTextsHaveTheirLines(t *testing.T) {
	lists := [][]string{
		nil,
		{},
		make([]string, impl.MaxText),
		{strings.Repeat("a", impl.MaxText-1)},
		{"", strings.Repeat("a", impl.MaxText-3), ""},
	}
	words := []string{"", "a", " ", "b = \"~\""}
	for _, a := range words {
		lists = append(lists, []string{a})
		for _, b := range words {
			lists = append(lists, []string{a, b})
			for _, c := range words {
				lists = append(lists, []string{a, b, c})
			}
		}
	}
	for _, list := range lists {
		before := slices.Clone(list)
		s, ok := impl.LinesText(list)
		want := ""
		for _, line := range list {
			want += line + "\n"
		}
		if s != want || !ok {
			t.Errorf("LinesText(%.20q) is %.20q of %d bytes, %v", list, s, len(s), ok)
		}
		if got := impl.LinesOf(s); !slices.Equal(got, list) {
			t.Errorf("LinesOf(%.20q) has %d lines, not the %d it is made of", s, len(got), len(list))
		}
		if !slices.Equal(list, before) {
			t.Errorf("LinesText changes its lines to %.20q", list)
		}
	}
}

func TestLinesTextRefuses(t *testing.T) {
	long := strings.Repeat("a", impl.MaxText)
	lists := [][]string{
		{"\n"},
		{"a\n"},
		{"\na"},
		{"a\nb"},
		{"a", "b\n", "c"},
		{"a", "b", "\n"},
		{long},
		{"", long[1:]},
		{long[1:], ""},
		{long[2:], "a"},
		{long[2:], "", ""},
		make([]string, impl.MaxText+1),
		slices.Repeat([]string{strings.Repeat(long, 50)}, 1000000),
	}
	for _, b := range forbiddenBytes() {
		lists = append(lists, []string{b}, []string{"a", "a" + b}, []string{b + "a", "a"})
	}
	for _, list := range lists {
		if s, ok := impl.LinesText(list); s != "" || ok {
			t.Errorf("LinesText of %d lines, the first one %.20q, is %.20q, %v", len(list), list[0], s, ok)
		}
	}
}

func TestPlaceOf(t *testing.T) {
	cases := []struct {
		text             string
		at, line, column int
	}{
		{"", 0, 0, 0},
		{"ab", 0, 0, 0},
		{"ab", 2, 0, 2},
		{"ab\ncd", 2, 0, 2},
		{"ab\ncd", 3, 1, 0},
		{"ab\ncd", 5, 1, 2},
		{"ab\n", 3, 1, 0},
		{"\n\n\n", 0, 0, 0},
		{"\n\n\n", 2, 2, 0},
		{"\n\n\n", 3, 3, 0},
		{"a\n\n\nbcd", 6, 3, 2},
	}
	for _, c := range cases {
		if line, column := impl.PlaceOf(c.text, c.at); line != c.line || column != c.column {
			t.Errorf("PlaceOf(%q, %d) is %d, %d", c.text, c.at, line, column)
		}
	}
}

// checkNextPlaces walks over places from..n-1 of a valid text, and looks at the next one of each.
func checkNextPlaces(t *testing.T, s string, from int) {
	t.Helper()
	line, column := impl.PlaceOf(s, from)
	for at := from; at < len(s); at++ {
		if s[at] == '\n' {
			line, column = line+1, 0
		} else {
			column++
		}
		if gotLine, gotColumn := impl.PlaceOf(s, at+1); gotLine != line || gotColumn != column {
			t.Fatalf("PlaceOf(%.20q, %d) is %d, %d, not %d, %d", s, at+1, gotLine, gotColumn, line, column)
		}
	}
}

// Promise 16: places have lines and columns.
func TestPlacesHaveLinesAndColumns(t *testing.T) {
	for _, s := range smallTexts() {
		if line, column := impl.PlaceOf(s, 0); line != 0 || column != 0 {
			t.Errorf("PlaceOf(%q, 0) is %d, %d", s, line, column)
		}
		checkNextPlaces(t, s, 0)
	}
	for _, s := range fullTexts() {
		before := s[:impl.MaxText-20]
		line, column := impl.PlaceOf(s, len(before))
		if line != strings.Count(before, "\n") || column != len(before)-strings.LastIndex(before, "\n")-1 {
			t.Errorf("PlaceOf(%.20q, %d) is %d, %d", s, len(before), line, column)
		}
		checkNextPlaces(t, s, len(before))
	}
}

func TestPlaceOfRefuses(t *testing.T) {
	refuse := func(s string, at int) {
		t.Helper()
		if line, column := impl.PlaceOf(s, at); line != -1 || column != -1 {
			t.Errorf("PlaceOf(%.20q, %d) of %d bytes is %d, %d", s, at, len(s), line, column)
		}
	}
	for _, s := range append(smallTexts(), fullTexts()...) {
		for _, at := range []int{-1, -2, len(s) + 1, len(s) + 2, math.MinInt, math.MaxInt} {
			refuse(s, at)
		}
	}
	for _, s := range invalidTexts() {
		for _, at := range []int{-1, 0, 1, len(s), len(s) + 1} {
			refuse(s, at)
		}
	}
}

// checkJoin looks at the lines of two texts, of which the first one ends with a line end.
func checkJoin(t *testing.T, a string, b string) {
	t.Helper()
	var want []string
	if len(a)+len(b) <= impl.MaxText {
		want = slices.Concat(impl.LinesOf(a), impl.LinesOf(b))
	}
	if got := impl.LinesOf(a + b); !slices.Equal(got, want) {
		t.Errorf("LinesOf(%.20q + %.20q) has %d lines, not %d", a, b, len(got), len(want))
	}
}

// Promise 86: texts with line ends join.
func TestTextsWithLineEndsJoin(t *testing.T) {
	short := textsUpTo(4, "a \n")
	for _, a := range short {
		for _, b := range short {
			checkJoin(t, a+"\n", b)
		}
	}
	for _, s := range fullTexts() {
		for _, n := range []int{1, 2, 7, impl.MaxText / 2, impl.MaxText - 1} {
			a := s[:n-1] + "\n"
			checkJoin(t, a, s[n:])
			checkJoin(t, a, s[n-1:])
		}
	}
}

func TestLinesAreNew(t *testing.T) {
	const text = "a\nb\nc"
	first := impl.LinesOf(text)
	first[0] = "changed"
	_ = append(first[:1], "changed")
	if got := impl.LinesOf(text); !slices.Equal(got, []string{"a", "b", "c"}) {
		t.Errorf("LinesOf(%q) is %q after a change of an earlier result", text, got)
	}
}
