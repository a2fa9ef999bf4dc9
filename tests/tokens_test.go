package tests

import (
	"regexp"
	"slices"
	"strings"
	"testing"

	"loop.example/configformatter/impl"
)

var (
	namePattern = regexp.MustCompile(`^[a-z][a-z0-9_]{0,11}(\.[a-z][a-z0-9_]{0,11})*$`)
	// The groups are, in order, the kinds of tokens.
	tokenPattern = regexp.MustCompile(`^(?:([a-z][a-z0-9_.]*)|([0-9][0-9.]*)|("(?:[^"\\]|\\.)*")|(<=|>=|==|!=|&&|\|\||[-!*/%+<>?:()\[\],]))`)
)

// signs returns every sign, those of two bytes first.
func signs() []string {
	return []string{"<=", ">=", "==", "!=", "&&", "||", "!", "-", "*", "/", "%", "+", "<", ">", "?", ":", "(", ")", "[", "]", ","}
}

// expectedTokens divides a text by the pattern, and not byte by byte.
func expectedTokens(s string) ([]impl.Token, bool) {
	var list []impl.Token
	if !impl.TextValid(s) || strings.Contains(s, "\n") {
		return nil, false
	}
	for at := 0; at < len(s); {
		if s[at] == ' ' {
			at++
			continue
		}
		found := tokenPattern.FindStringSubmatchIndex(s[at:])
		if found == nil {
			return nil, false
		}
		kind := 1
		for found[2*kind] < 0 {
			kind++
		}
		list = append(list, impl.Token{Kind: kind, From: at, To: at + found[1]})
		at += found[1]
	}
	return list, true
}

// singleTokens returns texts that are one token each, of every kind.
func singleTokens() []string {
	return append(signs(),
		"a", "z", "a1", "x_1", "a_", "a__b", "a.b", "a.b.c", "a.", "a..b", "a.1", "a._", "true", "false", "truth", "abcdefghijklm", "a0123456789_.z",
		"0", "9", "00", "12", "1.5", "1.", "1..2", "1.2.3", "0123456789.", "12345678901234567890",
		`""`, `"x"`, `" "`, `"  a  b  "`, `"\""`, `"\\"`, `"\\\""`, `"\\\\"`, `"\n"`, `"\a\\b\"c"`, `"a = #&|{}~'"`, `"<="`, `"A"`, `"\ "`,
	)
}

// goodCodes returns texts that are divided into tokens.
func goodCodes() []string {
	return append(singleTokens(),
		"", " ", "   ",
		"a-(b-c)", "!!x && true", "a.b<=12 \"x\"", "a - -b", "a--b", "a&&!b", "  x  ",
		"f(x, [1, 2.5, \"t\"])[0]", "c ? a : b", "c?a:b", "1+2*3/4%5-6", "a<b>c<=d>=e==f!=g&&h||!i",
		"1a", "1a_1", "a1 1a", "12ab.c34.5", "a\"b\"c\"d\"1\"2\"", `"a""b"`, `"\\"x"\""`, `"\\""\\"`,
		"<<=", "<>", "><=", "!!=", "<!=", "<===", ">===", "!===", "====", "&&&&", "||||", "&&||", "-->", "<-", "()[]", "(((", ",,,", "::", "??", "+-*/%",
	)
}

// badCodes returns valid texts without line ends that have something else than tokens.
func badCodes() []string {
	list := []string{
		`"`, `"x`, `x"`, `"x" "`, `"""`, `"""""`, `"\"`, `"\`, `"x\`, `"x\"`, `"\\\"`, `"\\\`, `"\\" \"`, `"x"\`, `" `, `"\ `, `a "b c d`,
		"=", "a = b", "a=b", "===", "<==", ">==", "!==", "< =", "> =", "! =", "= =", "=<", "=>", "=!", "=a", "=1", `="x"`, "a=", " = ",
		"&", "a & b", "&&&", "& &", "&|", "&=", "a&", "|", "a | b", "|||", "| |", "|&", "|=", "a|",
		"A", "aB", "Ab", "a A", "1A", "_", "_a", "1_", ".", ".a", ".5", "a .b", "1 .5", "().a",
	}
	for b := 32; b <= 126; b++ {
		if strings.ContainsRune("ABCDEFGHIJKLMNOPQRSTUVWXYZ#$&'.;=@\\^_`{|}~\"", rune(b)) {
			s := string([]byte{byte(b)})
			list = append(list, s, " "+s, s+" ", "("+s+")", `"x" `+s)
		}
	}
	return list
}

// fullCodes returns texts of exactly MaxText bytes that are divided into tokens.
func fullCodes() []string {
	return []string{
		strings.Repeat("a", impl.MaxText),
		strings.Repeat("1", impl.MaxText),
		strings.Repeat(" ", impl.MaxText),
		strings.Repeat("(", impl.MaxText),
		strings.Repeat("<=", impl.MaxText/2),
		strings.Repeat("a ", impl.MaxText/2),
		strings.Repeat(`""`, impl.MaxText/2),
		strings.Repeat(" ", impl.MaxText-1) + "a",
		`"` + strings.Repeat("=", impl.MaxText-2) + `"`,
		`"` + strings.Repeat(`\"`, impl.MaxText/2-1) + `"`,
	}
}

// refusedCodes returns texts that have no tokens, for every reason.
func refusedCodes() []string {
	list := append(badCodes(), "\n", "a\n", "\na", "a\nb", "\"\n\"", "\"a\nb\"", "\"\\\n\"", "\"x\"\n", " \n ", "a\tb", "\"\t\"")
	for _, b := range forbiddenBytes() {
		list = append(list, b, "a"+b, b+"a", "1 "+b+" 2", `"`+b+`"`, `"\`+b+`"`)
	}
	for _, s := range fullCodes() {
		list = append(list, s+" ", s+"a", " "+s, s+s, s[1:]+"=", s[1:]+"\n", s[2:]+` "`)
	}
	return list
}

func allBytes() []string {
	var list []string
	for b := range 256 {
		list = append(list, string([]byte{byte(b)}))
	}
	return list
}

func TestTokenConstants(t *testing.T) {
	got := []int{impl.TokenName, impl.TokenNumber, impl.TokenText, impl.TokenSign, impl.MaxName}
	if !slices.Equal(got, []int{1, 2, 3, 4, 12}) {
		t.Fatal(got)
	}
}

func checkName(t *testing.T, s string) {
	t.Helper()
	want := namePattern.MatchString(s) && s != "true" && s != "false"
	if got := impl.NameValid(s); got != want {
		t.Errorf("NameValid(%.40q) of %d bytes is %v", s, len(s), got)
	}
}

func TestNameValid(t *testing.T) {
	for _, s := range textsUpTo(5, "az09_.A ") {
		checkName(t, s)
	}
	for _, b := range allBytes() {
		for _, s := range []string{b, "a" + b, b + "a", "a" + b + "a", "a." + b, "a." + b + "a", b + ".a", "a" + b + ".a"} {
			checkName(t, s)
		}
	}
	for n := range 3 * impl.MaxName {
		checkName(t, strings.Repeat("a", n))
		checkName(t, "b."+strings.Repeat("a", n)+".c")
		checkName(t, "b"+strings.Repeat("_", n))
		checkName(t, strings.Repeat("a", n)+"."+strings.Repeat("0", n))
	}
}

func TestNamesByHand(t *testing.T) {
	longest, longer := strings.Repeat("x", impl.MaxName), strings.Repeat("x", impl.MaxName+1)
	good := []string{
		"a", "z", "x_1", "a_", "a__", "a0", "a.b", "a.b.c.d.e.f", "truth", "tru", "falsey", "true_", "true1", "true.a", "a.true", "false.true", "true.true",
		longest, longest + "." + longest, "a." + longest, longest + ".a",
	}
	for _, s := range good {
		if !impl.NameValid(s) {
			t.Errorf("%q is no name", s)
		}
	}
	bad := []string{
		"", ".", "..", ".a", "a.", "a..b", "..a", "a..", ".a.b", "1", "1a", "_", "_a", "a.1", "a.1b", "a._", "a._b", "1.a", "_.a", "A", "aB", "a.B", "True",
		"true", "false", "a b", " a", "a ", "a. b", "a .b", "a-b", "a\n", "\na", "a\x00", "a\x7f", "\xc3\xa4", "a\xff",
		longer, "a." + longer, longer + ".a", longest + "." + longer,
		strings.Repeat("a", impl.MaxText), strings.Repeat(".", impl.MaxText),
	}
	for _, s := range bad {
		if impl.NameValid(s) {
			t.Errorf("%.40q is a name", s)
		}
	}
}

// Promise 25: names have parts.
func TestNamesHaveParts(t *testing.T) {
	parts := []string{"a", "z9", "x_1", "b__", "true", "false", strings.Repeat("m", impl.MaxName), "k" + strings.Repeat("0", impl.MaxName-1)}
	names := []string{"a", "x_1", "a.b", "truth", "true.a", strings.Repeat("n", impl.MaxName)}
	for _, name := range names {
		for _, a := range parts {
			for _, b := range parts {
				names = append(names, name+"."+a+"."+b)
			}
		}
	}
	// The promise has no limit for whole names.
	names = append(names, "a"+strings.Repeat(".a", impl.MaxText))
	for _, name := range names {
		if !impl.NameValid(name) || impl.NameValid(name+".") || impl.NameValid("."+name) {
			t.Errorf("NameValid(%.40q) is %v, with a point behind it %v", name, impl.NameValid(name), impl.NameValid(name+"."))
		}
		for _, part := range parts {
			if !impl.NameValid(name + "." + part) {
				t.Errorf("%.40q with the part %q more is no name", name, part)
			}
			if impl.NameValid(name + ".." + part) {
				t.Errorf("%.40q with two points before the part %q is a name", name, part)
			}
		}
	}
}

// checkTokens compares the tokens and the words of a text with those of the pattern.
func checkTokens(t *testing.T, s string) {
	t.Helper()
	want, wantOK := expectedTokens(s)
	got, ok := impl.TokensOf(s)
	if !slices.Equal(got, want) || ok != wantOK {
		t.Errorf("TokensOf(%.40q) is %.200v, %v, not %.200v, %v", s, got, ok, want, wantOK)
	}
	var words []string
	for _, token := range want {
		words = append(words, s[token.From:token.To])
	}
	if got := impl.WordsOf(s); !slices.Equal(got, words) {
		t.Errorf("WordsOf(%.40q) is %.200q, not %.200q", s, got, words)
	}
}

func TestTokensOf(t *testing.T) {
	for _, s := range slices.Concat(goodCodes(), fullCodes(), refusedCodes(), allBytes()) {
		checkTokens(t, s)
	}
	for _, s := range slices.Concat(textsUpTo(6, "a1. \""), textsUpTo(6, "\\\" a"), textsUpTo(6, "<=!&|"), textsUpTo(5, "a_1-\"\\ =")) {
		checkTokens(t, s)
	}
	for b := 32; b <= 126; b++ {
		for c := 32; c <= 126; c++ {
			checkTokens(t, string([]byte{byte(b), byte(c)}))
			checkTokens(t, string([]byte{'a', byte(b), '1', byte(c), '"', byte(b), byte(c), '"'}))
		}
	}
}

func TestTokensByHand(t *testing.T) {
	token := func(kind int, from int, to int) impl.Token { return impl.Token{Kind: kind, From: from, To: to} }
	cases := []struct {
		text   string
		tokens []impl.Token
	}{
		{"", nil},
		{"   ", nil},
		{"a", []impl.Token{token(impl.TokenName, 0, 1)}},
		{"  a1_.b.  ", []impl.Token{token(impl.TokenName, 2, 8)}},
		{"true", []impl.Token{token(impl.TokenName, 0, 4)}},
		{"abcdefghijklm", []impl.Token{token(impl.TokenName, 0, 13)}},
		{"1..2a", []impl.Token{token(impl.TokenNumber, 0, 4), token(impl.TokenName, 4, 5)}},
		{"a1 2", []impl.Token{token(impl.TokenName, 0, 2), token(impl.TokenNumber, 3, 4)}},
		{`"a" "\""`, []impl.Token{token(impl.TokenText, 0, 3), token(impl.TokenText, 4, 8)}},
		{`"\\"x`, []impl.Token{token(impl.TokenText, 0, 4), token(impl.TokenName, 4, 5)}},
		{"<<=", []impl.Token{token(impl.TokenSign, 0, 1), token(impl.TokenSign, 1, 3)}},
		{"!!", []impl.Token{token(impl.TokenSign, 0, 1), token(impl.TokenSign, 1, 2)}},
		{"<===", []impl.Token{token(impl.TokenSign, 0, 2), token(impl.TokenSign, 2, 4)}},
		{"&&||", []impl.Token{token(impl.TokenSign, 0, 2), token(impl.TokenSign, 2, 4)}},
		{"< ", []impl.Token{token(impl.TokenSign, 0, 1)}},
	}
	for _, c := range cases {
		if got, ok := impl.TokensOf(c.text); !slices.Equal(got, c.tokens) || !ok {
			t.Errorf("TokensOf(%q) is %v, %v, not %v", c.text, got, ok, c.tokens)
		}
	}
	for _, s := range signs() {
		if got, ok := impl.TokensOf(s); !slices.Equal(got, []impl.Token{token(impl.TokenSign, 0, len(s))}) || !ok {
			t.Errorf("TokensOf(%q) is %v, %v", s, got, ok)
		}
	}
}

func TestTokensAreRefused(t *testing.T) {
	for _, s := range refusedCodes() {
		if list, ok := impl.TokensOf(s); len(list) != 0 || ok {
			t.Errorf("TokensOf(%.40q) of %d bytes has %d tokens, %v", s, len(s), len(list), ok)
		}
		if words := impl.WordsOf(s); len(words) != 0 {
			t.Errorf("WordsOf(%.40q) of %d bytes has %d words", s, len(s), len(words))
		}
	}
}

// checkCover looks at what stands between the tokens of a text, and at each of them alone.
func checkCover(t *testing.T, s string) {
	t.Helper()
	list, ok := impl.TokensOf(s)
	if !ok {
		t.Errorf("TokensOf(%.40q) of %d bytes is refused", s, len(s))
	}
	end := 0
	for _, token := range list {
		if token.From < end || token.To <= token.From || token.To > len(s) {
			t.Fatalf("%.40q has the token %v behind %d", s, token, end)
		}
		if strings.Trim(s[end:token.From], " ") != "" {
			t.Errorf("%.40q has %.40q before the token %v", s, s[end:token.From], token)
		}
		word := s[token.From:token.To]
		alone, ok := impl.TokensOf(word)
		if !slices.Equal(alone, []impl.Token{{Kind: token.Kind, From: 0, To: len(word)}}) || !ok {
			t.Errorf("%.40q alone, of the kind %d, has the tokens %v, %v", word, token.Kind, alone, ok)
		}
		end = token.To
	}
	if strings.Trim(s[end:], " ") != "" {
		t.Errorf("%.40q has %.40q behind the last token", s, s[end:])
	}
}

// Promise 26: tokens cover texts.
func TestTokensCoverTexts(t *testing.T) {
	for _, s := range append(goodCodes(), fullCodes()...) {
		checkCover(t, s)
	}
	singles := singleTokens()
	for _, a := range singles {
		for _, b := range singles {
			checkCover(t, a+" "+b)
			if _, ok := expectedTokens(a + b); ok {
				checkCover(t, a+b)
			}
		}
	}
}

// Promise 27: words are tokens.
func TestWordsAreTokens(t *testing.T) {
	codes := append(goodCodes(), fullCodes()...)
	// With two spaces behind it the first one has exactly MaxText bytes, and the second one has one more.
	codes = append(codes, strings.Repeat("a", impl.MaxText-2), strings.Repeat("a", impl.MaxText-1))
	for _, s := range codes {
		words := impl.WordsOf(s)
		tokens, _ := impl.TokensOf(s)
		if len(words) != len(tokens) {
			t.Fatalf("%.40q has %d words and %d tokens", s, len(words), len(tokens))
		}
		for k, token := range tokens {
			if words[k] != s[token.From:token.To] {
				t.Errorf("the word %d of %.40q is %.40q, the token %.40q", k, s, words[k], s[token.From:token.To])
			}
		}
		spaced := ""
		if len(words) > 0 {
			spaced = strings.Join(words, "  ") + "  "
		}
		if len(spaced) > impl.MaxText {
			words = nil
		}
		if got := impl.WordsOf(spaced); !slices.Equal(got, words) {
			t.Errorf("%.40q has %d words, and spaced %d", s, len(words), len(got))
		}
	}
}

// checkSum looks at the tokens of two accepted texts with a space between them.
func checkSum(t *testing.T, a string, b string) {
	t.Helper()
	first, firstOK := impl.TokensOf(a)
	second, secondOK := impl.TokensOf(b)
	if !firstOK || !secondOK {
		t.Fatalf("%.40q or %.40q is refused", a, b)
	}
	want, wantOK := slices.Clone(first), true
	for _, token := range second {
		want = append(want, impl.Token{Kind: token.Kind, From: token.From + len(a) + 1, To: token.To + len(a) + 1})
	}
	if len(a)+1+len(b) > impl.MaxText {
		want, wantOK = nil, false
	}
	if got, ok := impl.TokensOf(a + " " + b); !slices.Equal(got, want) || ok != wantOK {
		t.Errorf("%.40q and %.40q have %d tokens together, %v, not %d", a, b, len(got), ok, len(want))
	}
}

// Promise 89: tokens of two texts add up.
func TestTokensOfTwoTextsAddUp(t *testing.T) {
	codes := goodCodes()
	for _, a := range codes {
		for _, b := range codes {
			checkSum(t, a, b)
		}
		// Both together have exactly MaxText bytes, and then one more.
		for _, fill := range []string{"a", "(", " ", "7"} {
			rest := strings.Repeat(fill, impl.MaxText-1-len(a))
			checkSum(t, a, rest)
			checkSum(t, rest, a)
			checkSum(t, a, rest+fill)
			checkSum(t, rest+fill, a)
		}
	}
	for _, s := range fullCodes() {
		checkSum(t, s, "")
		checkSum(t, "", s)
		checkSum(t, s, "a")
	}
}

func TestTokensAreNew(t *testing.T) {
	const text = "a + 1"
	tokens, _ := impl.TokensOf(text)
	words := impl.WordsOf(text)
	tokens[0], words[0] = impl.Token{}, "changed"
	_, _ = append(tokens[:1], impl.Token{}), append(words[:1], "changed")
	checkTokens(t, text)
}
