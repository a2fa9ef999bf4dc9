package tests

import (
	"slices"
	"strings"
	"testing"

	"loop.example/configformatter/impl"
)

// spaced writes words with the spaces of printed expressions.
func spaced(words []string) string {
	s := ""
	for k, word := range words {
		binary := slices.Contains(slices.Concat(signRanks...), word) && k > 0 && endsOperand(words[k-1])
		switch {
		case word == ",":
			s += ", "
		case binary || word == "?" || word == ":":
			s += " " + word + " "
		default:
			s += word
		}
	}
	return s
}

// expectedText returns the text of an expression; "" for other cells.
func expectedText(list []impl.Cell) string {
	if expectedSpans(list) == nil {
		return ""
	}
	return spaced(plainWords(list))
}

// checkText compares the text of cells with what is expected, and looks whether it is read back, and whether the cells stay.
func checkText(t *testing.T, list []impl.Cell) {
	t.Helper()
	before := slices.Clone(list)
	want := expectedText(list)
	got := impl.ExprText(list)
	if got != want {
		t.Errorf("ExprText of %d cells %.300v is %.300q, not %.300q", len(list), list, got, want)
	}
	if !slices.Equal(list, before) {
		t.Errorf("%.300v was changed to %.300v", before, list)
	}
	if want == "" {
		return
	}
	if back, ok := impl.ReadExpr(got); !ok || !slices.Equal(back, list) {
		t.Errorf("%.300q is read as %.300s, %v, not as %.300s", got, shape(back), ok, shape(list))
	}
	checkFormat(t, got, got)
}

// checkFormat looks whether a text is formatted as another one, and that one as itself; "" if it is refused.
func checkFormat(t *testing.T, s string, want string) {
	t.Helper()
	if got, ok := impl.FormatExpr(s); got != want || ok != (want != "") {
		t.Errorf("FormatExpr(%.300q) of %d bytes is %.300q, %v, not %.300q", s, len(s), got, ok, want)
	}
	if want == "" {
		return
	}
	if got, ok := impl.FormatExpr(want); got != want || !ok {
		t.Errorf("FormatExpr(%.300q) is %.300q, %v", want, got, ok)
	}
}

// checkFormats looks how texts are formatted, with any spaces between their words.
func checkFormats(t *testing.T, cases [][2]string) {
	t.Helper()
	for _, c := range cases {
		for _, s := range append(spacings(wordsOf(c[0])), c[0]) {
			checkFormat(t, s, c[1])
		}
		// The models of the other tests are looked at here, too.
		if want := expectedText(expectedExpr(c[0])); want != c[1] {
			t.Errorf("%q should be %q and not %q", c[0], c[1], want)
		}
	}
}

// pairs returns the numbers of the words that open and close parentheses, but for those of calls.
func pairs(words []string) [][2]int {
	var list [][2]int
	var open []int
	for k, word := range words {
		switch word {
		case "(":
			open = append(open, k)
		case ")":
			first := open[len(open)-1]
			open = open[:len(open)-1]
			if first == 0 || !endsOperand(words[first-1]) {
				list = append(list, [2]int{first, k})
			}
		}
	}
	return list
}

// lacking returns words without two of them.
func lacking(words []string, pair [2]int) []string {
	return slices.Concat(words[:pair[0]], words[pair[0]+1:pair[1]], words[pair[1]+1:])
}

// someParentheses writes an expression with parentheses around those of its cells that a number has as bits, needed or not, and returns how many there are.
func someParentheses(list []impl.Cell, bits int) ([]string, int) {
	words, _, n := someAt(list, 0, bits)
	return words, n
}

func someAt(list []impl.Cell, at int, bits int) ([]string, int, int) {
	c, end, n := list[at], at+1, bits>>at&1
	parts := make([][]string, c.Many)
	for k := range parts {
		var inner int
		parts[k], end, inner = someAt(list, end, bits)
		n += inner
	}
	words := exprWriter{number: func(word string) string { return word }}.joined(c, parts)
	if bits>>at&1 == 1 {
		words = slices.Concat([]string{"("}, words, []string{")"})
	}
	return words, end, n
}

// checkFewest tries parentheses in all places, and looks that only those texts are read as the expression that have all parentheses of the printed one.
func checkFewest(t *testing.T, list []impl.Cell) {
	t.Helper()
	printed := impl.ExprText(list)
	least, texts := len(list)+1, []string(nil)
	for bits := range 1 << len(list) {
		words, n := someParentheses(list, bits)
		if n > least || !slices.Equal(expectedExpr(strings.Join(words, " ")), list) {
			continue
		}
		if n < least {
			least, texts = n, nil
		}
		texts = append(texts, spaced(words))
	}
	if !slices.Equal(texts, []string{printed}) {
		t.Errorf("the text of %s is %q, and those with %d parentheses are %q", shape(list), printed, least, texts)
	}
}
