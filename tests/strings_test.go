package tests

import (
	"regexp"
	"slices"
	"strings"
	"testing"

	"loop.example/configformatter/impl"
)

var (
	plainPattern  = regexp.MustCompile(`\A[\n -~]*\z`)
	quotedPattern = regexp.MustCompile(`\A"(?:[ !#-\[\]-~]|\\["\\n])*"\z`)
	quoter        = strings.NewReplacer("\"", `\"`, "\\", `\\`, "\n", `\n`)
	unquoter      = strings.NewReplacer(`\"`, "\"", `\\`, "\\", `\n`, "\n")
)

// expectedQuoted quotes a text by replacements, and not byte by byte.
func expectedQuoted(s string) string {
	if len(s) > impl.MaxText || !plainPattern.MatchString(s) {
		return ""
	}
	return `"` + quoter.Replace(s) + `"`
}

// expectedUnquoted reads a quoted text by a pattern and replacements, and does not quote anything.
func expectedUnquoted(s string) (string, bool) {
	if !quotedPattern.MatchString(s) {
		return "", false
	}
	text := unquoter.Replace(s[1 : len(s)-1])
	if len(text) > impl.MaxText {
		return "", false
	}
	return text, true
}

// quotableTexts returns valid texts: all short ones of the bytes that are quoted in their own way and of n, and some longer ones.
func quotableTexts() []string {
	list := slices.Concat(textsUpTo(6, "n\"\\\n"), textsUpTo(4, "a \"\\\nn"), smallTexts(), singleTokens(),
		[]string{
			"two words", "  spaces  ", "say \"hi\"", "c:\\new\\", "first\nsecond\n", `\n`, `\\n`, "\\\n", "~!#[]^",
			strings.Repeat("\\", 99), strings.Repeat("\"", 99), strings.Repeat("\n", 99), strings.Repeat("\\\"\nn", 99),
		})
	for b := 32; b <= 126; b++ {
		s := string([]byte{byte(b)})
		list = append(list, s, s+s, "a"+s+"\n", "\\"+s, s+"\\", "\""+s, s+"\"")
	}
	return list
}

// largeTexts returns valid texts around the two limits: of the text itself, and of its quoted form as a text of code.
func largeTexts() []string {
	list := fullTexts()
	for _, unit := range []string{"\"", "\\", "\n", "n", "a", "\"a", "a\\"} {
		whole := strings.Repeat(unit, impl.MaxText/len(unit))
		half := strings.Repeat(unit, impl.MaxText/2/len(unit)-1)
		list = append(list, whole, whole[1:], whole[2:], whole[3:], half, half+"a", half+"aa", half+"\\", half+"\n")
	}
	return list
}

// quotedCandidates returns texts that are quoted ones, and others that look nearly like them.
func quotedCandidates() []string {
	var list []string
	for _, s := range slices.Concat(textsUpTo(6, "n\"\\a"), textsUpTo(5, "n\"\\\n ")) {
		list = append(list, s, `"`+s, s+`"`, `"`+s+`"`)
	}
	bytes := allBytes()
	for _, a := range bytes {
		list = append(list, a, `"`+a, a+`"`, `"`+a+`"`, `"\`+a+`"`, `"\\`+a+`"`, `"\\\`+a+`"`)
		for _, b := range bytes {
			list = append(list, `"`+a+b+`"`)
		}
	}
	return list
}

func TestStringsByHand(t *testing.T) {
	cases := []struct{ text, quoted string }{
		{"", `""`},
		{"a", `"a"`},
		{" ", `" "`},
		{"  two  words ", `"  two  words "`},
		{"~!#[]^{}'", `"~!#[]^{}'"`},
		{"\"", `"\""`},
		{"\"\"", `"\"\""`},
		{"say \"hi\"", `"say \"hi\""`},
		{"\\", `"\\"`},
		{"\\\\\\", `"\\\\\\"`},
		{"a\\", `"a\\"`},
		{"a\\\\", `"a\\\\"`},
		{"\\a", `"\\a"`},
		{"\n", `"\n"`},
		{"\n\n", `"\n\n"`},
		{"a\nb\n", `"a\nb\n"`},
		{"n", `"n"`},
		{"\\n", `"\\n"`},
		{"\\\\n", `"\\\\n"`},
		{"\\\n", `"\\\n"`},
		{"\n\\", `"\n\\"`},
		{"\n\\n", `"\n\\n"`},
		{"\\\"", `"\\\""`},
		{"\"\\", `"\"\\"`},
		{"a\"\n\\", `"a\"\n\\"`},
	}
	for _, c := range cases {
		if got := impl.QuoteText(c.text); got != c.quoted {
			t.Errorf("QuoteText(%q) is %q, not %q", c.text, got, c.quoted)
		}
		if got, ok := impl.UnquoteText(c.quoted); got != c.text || !ok {
			t.Errorf("UnquoteText(%q) is %q, %v, not %q", c.quoted, got, ok, c.text)
		}
	}
}

func TestQuoteText(t *testing.T) {
	for _, s := range slices.Concat(quotableTexts(), largeTexts(), invalidTexts(), allBytes()) {
		if got, want := impl.QuoteText(s), expectedQuoted(s); got != want {
			t.Errorf("QuoteText(%.40q) of %d bytes is %.40q of %d bytes, not %.40q of %d bytes", s, len(s), got, len(got), want, len(want))
		}
	}
}

func TestQuoteTextRefuses(t *testing.T) {
	list := invalidTexts()
	for _, b := range forbiddenBytes() {
		list = append(list, "\""+b, b+"\\", "\n"+b+"\n", "\\"+b+"\"")
	}
	for _, s := range largeTexts() {
		rest := strings.Repeat("a", impl.MaxText-len(s))
		list = append(list, rest+s+"a", rest+s+"\n", "\\"+rest+s, "\""+s+rest)
	}
	list = append(list, strings.Repeat("a", 100*impl.MaxText))
	for _, s := range list {
		if got := impl.QuoteText(s); got != "" {
			t.Errorf("QuoteText(%.40q) of %d bytes is %.40q", s, len(s), got)
		}
	}
}

// checkQuoted looks at the quoted form of a valid text.
func checkQuoted(t *testing.T, s string) {
	t.Helper()
	quoted := impl.QuoteText(s)
	if text, ok := impl.UnquoteText(quoted); text != s || !ok {
		t.Errorf("%.40q of %d bytes, quoted and read, is %.40q of %d bytes, %v", s, len(s), text, len(text), ok)
	}
	tokens, ok := impl.TokensOf(quoted)
	if len(quoted) > impl.MaxText {
		if len(tokens) != 0 || ok {
			t.Errorf("%.40q is too long and has %d tokens, %v", quoted, len(tokens), ok)
		}
		return
	}
	if !slices.Equal(tokens, []impl.Token{{Kind: impl.TokenText, From: 0, To: len(quoted)}}) || !ok {
		t.Errorf("%.40q of %d bytes has the tokens %.40v, %v", quoted, len(quoted), tokens, ok)
	}
}

// Promise 28: quoted texts can be read.
func TestQuotedTextsCanBeRead(t *testing.T) {
	for _, s := range append(quotableTexts(), largeTexts()...) {
		checkQuoted(t, s)
	}
}

func TestLengthsOfQuotedTexts(t *testing.T) {
	cases := []struct {
		unit, written  string
		count, quoted  int
		read, oneToken bool
	}{
		{"a", "a", impl.MaxText - 2, impl.MaxText, true, true},
		{"a", "a", impl.MaxText - 1, impl.MaxText + 1, true, false},
		{"a", "a", impl.MaxText, impl.MaxText + 2, true, false},
		{"a", "a", impl.MaxText + 1, impl.MaxText + 3, false, false},
		{"\"", `\"`, impl.MaxText/2 - 1, impl.MaxText, true, true},
		{"\"", `\"`, impl.MaxText / 2, impl.MaxText + 2, true, false},
		{"\"", `\"`, impl.MaxText, 2*impl.MaxText + 2, true, false},
		{"\"", `\"`, impl.MaxText + 1, 2*impl.MaxText + 4, false, false},
		{"\\", `\\`, impl.MaxText, 2*impl.MaxText + 2, true, false},
		{"\\", `\\`, impl.MaxText + 1, 2*impl.MaxText + 4, false, false},
		{"\n", `\n`, impl.MaxText, 2*impl.MaxText + 2, true, false},
		{"\n", `\n`, impl.MaxText + 1, 2*impl.MaxText + 4, false, false},
	}
	for _, c := range cases {
		wantText, wantQuoted := "", ""
		quoted := `"` + strings.Repeat(c.written, c.count) + `"`
		if len(quoted) != c.quoted {
			t.Fatalf("%d times %q is quoted with %d bytes", c.count, c.unit, len(quoted))
		}
		if c.read {
			wantText, wantQuoted = strings.Repeat(c.unit, c.count), quoted
		}
		if got, ok := impl.UnquoteText(quoted); got != wantText || ok != c.read {
			t.Errorf("%d times %q, quoted, is read as %.40q of %d bytes, %v", c.count, c.unit, got, len(got), ok)
		}
		if got := impl.QuoteText(strings.Repeat(c.unit, c.count)); got != wantQuoted {
			t.Errorf("%d times %q is quoted as %.40q of %d bytes", c.count, c.unit, got, len(got))
		}
		if tokens, ok := impl.TokensOf(quoted); ok != c.oneToken || ok && len(tokens) != 1 {
			t.Errorf("%d times %q, quoted, has %d tokens, %v", c.count, c.unit, len(tokens), ok)
		}
	}
}

// Promise 29: accepted texts are canonical.
func TestReadTextsAreCanonical(t *testing.T) {
	list := quotedCandidates()
	for _, s := range slices.Concat(quotableTexts(), largeTexts()) {
		quoted := expectedQuoted(s)
		list = append(list, s, quoted, quoted+" ")
	}
	accepted := 0
	for _, s := range list {
		text, ok := impl.UnquoteText(s)
		want, wantOK := expectedUnquoted(s)
		if text != want || ok != wantOK {
			t.Errorf("UnquoteText(%.40q) of %d bytes is %.40q, %v, not %.40q, %v", s, len(s), text, ok, want, wantOK)
		}
		if !ok {
			continue
		}
		accepted++
		if got := impl.QuoteText(text); got != s {
			t.Errorf("%.40q of %d bytes, read and quoted, is %.40q of %d bytes", s, len(s), got, len(got))
		}
	}
	if accepted < len(quotableTexts()) {
		t.Errorf("only %d of %d texts are accepted", accepted, len(list))
	}
}

func checkNotQuoted(t *testing.T, s string) {
	t.Helper()
	if text, ok := impl.UnquoteText(s); text != "" || ok {
		t.Errorf("UnquoteText(%.40q) of %d bytes is %.40q, %v", s, len(s), text, ok)
	}
}

func TestUnquoteTextRefuses(t *testing.T) {
	list := []string{
		"", `"`, "a", "n", " ", "\n", `\`, `\"`, `\""`, `\"\"`, "''", "`a`",
		`"a`, `a"`, `"\n`, `\n"`, `"\"a`, `" `, ` "`,
		`"""`, `"a"b"`, `""a"`, `"a""`, `"\\""`, `"\\"a"`, `"\"""`,
		`"\"`, `"a\"`, `"\\\"`, `"\\\\\"`, `"\n\"`, `"\"\"`,
		`"\q"`, `"\N"`, `"\t"`, `"\r"`, `"\0"`, `"\ "`, `"\'"`, `"\x41"`, `"\u0041"`, `"\\\a"`, `"\n\m"`,
		"\"\n\"", "\"a\n\"", "\"\na\"", "\"\\\n\"", "\"\\\\\n\"", "\"\r\n\"",
		` "a"`, `"a" `, `"a"a`, `a"a"`, `"a""b"`, `"a" "b"`, "\"a\"\n", "\n\"a\"", `("a")`,
		"\"\xc3\xa4\"", "\"\x00\"", "\"\\\x00\"", "\"\t\"",
	}
	for _, b := range forbiddenBytes() {
		list = append(list, b, b+`""`, `""`+b, `"`+b, b+`"`, `"`+b+`"`, `"a`+b+`"`, `"`+b+`a"`, `"\`+b+`"`, `"\\`+b+`"`, `"\n`+b+`"`)
	}
	for b := range 256 {
		if b != '"' && b != '\\' && b != 'n' {
			s := string([]byte{byte(b)})
			list = append(list, `"\`+s+`"`, `"a\`+s+`a"`, `"\\\`+s+`"`)
		}
	}
	for _, s := range list {
		checkNotQuoted(t, s)
	}
}

// Nothing can be taken from the ends of a quoted text, or be added there.
func TestUnquoteTextWantsBothMarks(t *testing.T) {
	around := []string{" ", "\n", "a", "n", "\"", "\\", "\\\"", `""`, `"a"`, ",", "\x00", "\xff"}
	for _, s := range append(quotableTexts(), largeTexts()...) {
		quoted := expectedQuoted(s)
		checkNotQuoted(t, quoted[1:])
		checkNotQuoted(t, quoted[:len(quoted)-1])
		checkNotQuoted(t, quoted[1:len(quoted)-1])
		for _, other := range around {
			checkNotQuoted(t, other+quoted)
			checkNotQuoted(t, quoted+other)
		}
		checkNotQuoted(t, quoted+quoted)
	}
}

func TestUnquoteTextHasALimit(t *testing.T) {
	for _, s := range largeTexts() {
		quoted := expectedQuoted(s)
		inside := strings.Repeat("a", impl.MaxText-len(s)) + quoted[1:len(quoted)-1]
		if text, ok := impl.UnquoteText(`"` + inside + `"`); len(text) != impl.MaxText || !ok {
			t.Errorf("%.40q of %d bytes is read as %d bytes, %v", inside, len(inside), len(text), ok)
		}
		for _, more := range []string{"a", `\n`, `\\`, `\"`, " "} {
			checkNotQuoted(t, `"`+inside+more+`"`)
			checkNotQuoted(t, `"`+more+inside+`"`)
		}
	}
	for _, unit := range []string{"a", `\n`, `\\`, `\"`, `\q`, `"`} {
		checkNotQuoted(t, `"`+strings.Repeat(unit, 100*impl.MaxText)+`"`)
	}
}
