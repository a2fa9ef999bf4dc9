package tests

import (
	"math"
	"slices"
	"strings"
	"testing"

	"loop.example/configformatter/impl"
)

// widthsOutside are widths that no words fit.
var widthsOutside = []int{0, -1, -2, -impl.MaxWidth, math.MinInt, impl.MaxWidth + 1, impl.MaxWidth + 2, 1000, math.MaxInt}

// manyWords returns so many words of one byte.
func manyWords(n int) []string {
	return slices.Repeat([]string{"w"}, n)
}

func TestWordsFitByHand(t *testing.T) {
	for _, c := range []struct {
		words []string
		width int
		fit   bool
	}{
		{nil, 1, true}, {[]string{}, 1, true}, {nil, impl.MaxWidth, true}, {nil, 0, false}, {nil, -1, false}, {nil, impl.MaxWidth + 1, false}, {[]string{}, 0, false}, {[]string{}, impl.MaxWidth + 1, false},
		{[]string{"a"}, 1, true}, {[]string{"a"}, impl.MaxWidth, true}, {[]string{"a"}, 0, false}, {[]string{"a"}, -1, false}, {[]string{"a"}, impl.MaxWidth + 1, false},
		{[]string{"ab"}, 1, false}, {[]string{"ab"}, 2, true}, {[]string{"abc"}, 2, false}, {[]string{"a", "bc", "d"}, 2, true}, {[]string{"a", "bc", "d"}, 1, false},
		{[]string{""}, 1, false}, {[]string{""}, impl.MaxWidth, false}, {[]string{"", "a"}, 5, false}, {[]string{"a", ""}, 5, false}, {[]string{"a", "", "b"}, 5, false},
		{[]string{"!"}, 1, true}, {[]string{"~"}, 1, true}, {[]string{" "}, 1, false}, {[]string{"\x7f"}, 1, false}, {[]string{"\x1f"}, 1, false}, {[]string{"\x00"}, 1, false}, {[]string{"\n"}, 1, false}, {[]string{"\t"}, 1, false}, {[]string{"\x80"}, 1, false}, {[]string{"\xff"}, 1, false}, {[]string{"\xc3\xa4"}, 2, false}, {[]string{"\xc2\xa0"}, 2, false},
		{[]string{"a b"}, 3, false}, {[]string{" a"}, 3, false}, {[]string{"a "}, 3, false}, {[]string{"a\nb"}, 3, false}, {[]string{"a\x7fb"}, 3, false}, {[]string{"#\"\\{}=~!"}, 8, true},
		{manyWords(impl.MaxWords), 1, true}, {manyWords(impl.MaxWords + 1), 1, false}, {manyWords(impl.MaxWords + 1), impl.MaxWidth, false},
		{[]string{strings.Repeat("w", impl.MaxWidth)}, impl.MaxWidth, true}, {[]string{strings.Repeat("w", impl.MaxWidth+1)}, impl.MaxWidth, false}, {[]string{strings.Repeat("w", impl.MaxWidth)}, impl.MaxWidth - 1, false}, {[]string{strings.Repeat("w", impl.MaxWidth+1)}, impl.MaxWidth + 1, false},
	} {
		if got := impl.WordsFit(c.words, c.width); got != c.fit {
			t.Errorf("%q fit the width %d: %v", c.words, c.width, got)
		}
		if !c.fit {
			checkNotWrapped(t, c.words, c.width)
		} else if !checkWrapped(t, c.words, c.width) {
			t.Errorf("the model is wrong: %q fit the width %d", c.words, c.width)
		}
	}
}

func TestCostsByHand(t *testing.T) {
	for _, c := range []struct {
		sizes string
		width int
		lines []int
		cost  int
	}{
		// No words need no lines.
		{"", 1, nil, 0}, {"", 40, []int{}, 0}, {"", 5, []int{0}, -1}, {"", 5, []int{1}, -1}, {"", 5, []int{-1}, -1}, {"", 5, []int{0, 0}, -1}, {"", 5, []int{1, -1}, -1}, {"", 0, nil, -1}, {"", -1, nil, -1}, {"", 41, nil, -1},
		// One word stands in the last line, which costs nothing.
		{"1", 1, []int{1}, 0}, {"1", 40, []int{1}, 0}, {"5", 6, []int{1}, 0}, {"5", 5, []int{1}, 0}, {"5", 4, []int{1}, -1}, {"5", 6, nil, -1}, {"5", 6, []int{0}, -1}, {"5", 6, []int{2}, -1}, {"5", 6, []int{-1}, -1}, {"5", 6, []int{1, 0}, -1}, {"5", 6, []int{0, 1}, -1}, {"5", 6, []int{1, 1}, -1}, {"5", 6, []int{2, -1}, -1}, {"e", 40, []int{1}, 0}, {"E", 40, []int{1}, 0}, {"F", 40, []int{1}, -1}, {"F", 41, []int{1}, -1},
		// The square of what is missing, with a space between two words.
		{"11", 3, []int{2}, 0}, {"11", 2, []int{2}, -1}, {"11", 2, []int{1, 1}, 1}, {"11", 1, []int{1, 1}, 0}, {"11", 5, []int{1, 1}, 16}, {"11", 40, []int{1, 1}, 1521}, {"21", 5, []int{1, 1}, 9}, {"12", 5, []int{1, 1}, 16}, {"51", 5, []int{1, 1}, 0}, {"15", 5, []int{1, 1}, 16}, {"23", 6, []int{2}, 0}, {"23", 5, []int{2}, -1}, {"111", 5, []int{3}, 0}, {"111", 4, []int{3}, -1}, {"111", 4, []int{2, 1}, 1}, {"111", 4, []int{1, 2}, 9}, {"111", 4, []int{1, 1, 1}, 18}, {"1111", 10, []int{3, 1}, 25}, {"1111", 10, []int{2, 2}, 49}, {"1111", 10, []int{1, 3}, 81}, {"1111", 10, []int{4}, 0}, {"1111", 10, []int{1, 2, 1}, 130},
		// A line of exactly the width, and one byte longer, at every place.
		{"3212", 6, []int{2, 2}, 0}, {"3312", 6, []int{2, 2}, -1}, {"1232", 6, []int{2, 2}, 4}, {"1233", 6, []int{2, 2}, -1}, {"223212", 6, []int{2, 2, 2}, 1}, {"223312", 6, []int{2, 2, 2}, -1},
		// The words of the example.
		{"3225", 6, []int{1, 2, 1}, 10}, {"3225", 6, []int{2, 1, 1}, 16}, {"3225", 6, []int{1, 1, 1, 1}, 41}, {"3225", 6, []int{3, 1}, -1}, {"3225", 6, []int{1, 2}, -1}, {"3225", 6, []int{1, 2, 1, 1}, -1}, {"3225", 6, []int{1, 1, 2}, -1}, {"3225", 6, []int{2, 2}, -1}, {"3225", 6, []int{4}, -1}, {"3225", 6, nil, -1}, {"3225", 7, []int{1, 2, 1}, 20}, {"3225", 8, []int{2, 2}, 4},
		// Numbers that are right only all together.
		{"3225", 6, []int{1, 0, 2, 1}, -1}, {"3225", 6, []int{0, 1, 2, 1}, -1}, {"3225", 6, []int{1, 2, 1, 0}, -1}, {"3225", 6, []int{2, -1, 2, 1}, -1}, {"3225", 6, []int{-1, 2, 2, 1}, -1}, {"3225", 6, []int{1, 2, 2, -1}, -1}, {"3225", 6, []int{1, 3, -1, 1}, -1}, {"1111", 9, []int{5, -1}, -1}, {"1111", 9, []int{math.MaxInt, 1, math.MinInt, 4}, -1}, {"1111", 9, []int{math.MinInt, math.MinInt, 4}, -1}, {"1111", 9, []int{2, math.MaxInt, math.MaxInt, 4}, -1}, {"1111", 9, []int{math.MaxInt}, -1}, {"1111", 9, []int{math.MinInt}, -1},
		// The last line is much shorter than the width, and costs nothing.
		{"e1", 14, []int{1, 1}, 0}, {"E1", 40, []int{1, 1}, 0}, {"E11", 40, []int{1, 2}, 0}, {"zzz1", 40, []int{1, 1, 1, 1}, 75}, {"D1", 40, []int{1, 1}, 1}, {"D1", 40, []int{2}, -1}, {"C1", 40, []int{2}, 0}, {"1E", 40, []int{1, 1}, 1521},
		// MaxWords words.
		{strings.Repeat("1", 20), 40, []int{20}, 0}, {strings.Repeat("1", 20), 39, []int{20}, 0}, {strings.Repeat("1", 20), 38, []int{20}, -1}, {strings.Repeat("1", 20), 40, []int{10, 10}, 441}, {strings.Repeat("1", 20), 40, []int{19, 1}, 9}, {strings.Repeat("1", 20), 40, []int{1, 19}, 1521}, {strings.Repeat("1", 20), 40, slices.Repeat([]int{1}, 20), 28899}, {strings.Repeat("1", 20), 1, slices.Repeat([]int{1}, 20), 0}, {strings.Repeat("1", 20), 40, slices.Repeat([]int{1}, 21), -1}, {strings.Repeat("1", 20), 40, slices.Repeat([]int{1}, 19), -1}, {strings.Repeat("1", 21), 40, slices.Repeat([]int{1}, 21), -1}, {strings.Repeat("1", 21), 40, []int{21}, -1}, {strings.Repeat("E", 20), 40, slices.Repeat([]int{1}, 20), 0},
		// Words that do not fit have no cost, wherever they stand.
		{"0", 5, []int{1}, -1}, {"10", 5, []int{2}, -1}, {"10", 5, []int{1, 1}, -1}, {"01", 5, []int{1}, -1}, {"116", 5, []int{2, 1}, -1}, {"611", 5, []int{1, 2}, -1}, {"611", 5, []int{2}, -1}, {"11", 0, []int{1, 1}, -1}, {"11", 41, []int{2}, -1}, {"11", -3, []int{1, 1}, -1}, {"11", math.MaxInt, []int{2}, -1}, {"11", math.MinInt, []int{1, 1}, -1},
	} {
		words := wordsOfSizes(c.sizes)
		if got := impl.WrapCost(words, c.width, c.lines); got != c.cost {
			t.Errorf("words of the sizes %s cost %d in the lines %v at the width %d, and not %d", c.sizes, got, c.lines, c.width, c.cost)
		}
		if got := expectedCost(words, c.width, c.lines); got != c.cost {
			t.Errorf("the model is wrong: words of the sizes %s cost %d in the lines %v at the width %d", c.sizes, got, c.lines, c.width)
		}
	}
}

func TestLinesByHand(t *testing.T) {
	one := func(n int) []int { return slices.Repeat([]int{1}, n) }
	for _, c := range []struct {
		sizes  string
		width  int
		best   []int
		greedy []int
	}{
		{"", 1, nil, nil}, {"", 40, nil, nil}, {"1", 1, one(1), one(1)}, {"1", 40, one(1), one(1)}, {"9", 9, one(1), one(1)}, {"E", 40, one(1), one(1)},
		{"11", 1, one(2), one(2)}, {"11", 2, one(2), one(2)}, {"11", 3, []int{2}, []int{2}}, {"11", 4, []int{2}, []int{2}}, {"23", 5, one(2), one(2)}, {"23", 6, []int{2}, []int{2}}, {"EE", 40, one(2), one(2)}, {"1E", 40, one(2), one(2)}, {"1C", 40, []int{2}, []int{2}}, {"1D", 40, one(2), one(2)},
		{"111", 3, []int{2, 1}, []int{2, 1}}, {"111", 4, []int{2, 1}, []int{2, 1}}, {"111", 5, []int{3}, []int{3}}, {"1111", 3, []int{2, 2}, []int{2, 2}}, {"11111", 5, []int{3, 2}, []int{3, 2}},
		// Greedy lines that cost more.
		{"3225", 6, []int{1, 2, 1}, []int{2, 1, 1}}, {"2113", 4, []int{1, 2, 1}, []int{2, 1, 1}}, {"11115", 5, []int{2, 2, 1}, []int{3, 1, 1}},
		// And ones that cost as little as they can.
		{"2111", 4, []int{2, 2}, []int{2, 2}}, {"2213", 5, []int{2, 2}, []int{2, 2}}, {"3222", 6, []int{2, 2}, []int{2, 2}}, {"4113", 6, []int{2, 2}, []int{2, 2}},
		// Several that cost the same: the first line has the most words.
		{"1114", 4, []int{2, 1, 1}, []int{2, 1, 1}}, {"111114", 4, []int{2, 2, 1, 1}, []int{2, 2, 1, 1}},
		// Then the second one.
		{"41114", 4, []int{1, 2, 1, 1}, []int{1, 2, 1, 1}}, {"1441114", 4, []int{1, 1, 1, 2, 1, 1}, []int{1, 1, 1, 2, 1, 1}},
		// Several that cost the same, and less than the greedy ones.
		{"212113", 4, []int{2, 1, 2, 1}, []int{2, 2, 1, 1}}, {"212114", 5, []int{2, 1, 2, 1}, []int{2, 2, 1, 1}}, {"411133", 6, []int{1, 3, 1, 1}, []int{2, 2, 1, 1}}, {"7351357", 12, []int{2, 2, 2, 1}, []int{2, 3, 1, 1}},
		// Several that cost the same with fewer and with more lines.
		{"41231141", 6, []int{2, 2, 2, 2}, []int{2, 2, 2, 2}}, {"4123113141", 6, []int{2, 2, 2, 2, 2}, []int{2, 2, 2, 2, 2}},
		// More lines than the greedy ones.
		{"52251151", 8, []int{1, 2, 2, 2, 1}, []int{2, 2, 2, 2}}, {"483885128113", 17, []int{2, 2, 3, 4, 1}, []int{3, 2, 3, 4}},
		// MaxWords words.
		{strings.Repeat("1", 20), 39, []int{20}, []int{20}}, {strings.Repeat("1", 20), 38, []int{19, 1}, []int{19, 1}}, {strings.Repeat("1", 20), 1, one(20), one(20)}, {strings.Repeat("1", 20), 3, slices.Repeat([]int{2}, 10), slices.Repeat([]int{2}, 10)}, {strings.Repeat("E", 20), 40, one(20), one(20)},
	} {
		words := wordsOfSizes(c.sizes)
		if got := impl.WrapLines(words, c.width); !slices.Equal(got, c.best) {
			t.Errorf("words of the sizes %s are wrapped at the width %d as %v and not as %v", c.sizes, c.width, got, c.best)
		}
		if got := impl.WrapGreedy(words, c.width); !slices.Equal(got, c.greedy) {
			t.Errorf("the greedy lines of words of the sizes %s are %v at the width %d and not %v", c.sizes, got, c.width, c.greedy)
		}
		if !checkWrapped(t, words, c.width) {
			t.Errorf("words of the sizes %s do not fit the width %d", c.sizes, c.width)
		}
	}
}

// Every byte at every place of a word, alone and among others.
func TestBytesOfWords(t *testing.T) {
	for b := range 256 {
		word := string([]byte{byte(b)})
		fits := b >= 33 && b <= 126
		for _, words := range [][]string{{word}, {word + "a"}, {"a" + word}, {"a" + word + "b"}, {word + word}, {word, "a"}, {"a", word}, {"a", word, "b"}, {"aa", "b" + word, "c"}} {
			for _, width := range []int{3, impl.MaxWidth} {
				if checkWrapped(t, words, width) != fits {
					t.Errorf("%q fit the width %d, or not", words, width)
				}
				if !fits {
					checkNotWrapped(t, words, width)
				}
			}
		}
	}
}

// Words of all lengths, at every place among others, with all widths.
func TestLengthsOfWords(t *testing.T) {
	for width := -1; width <= impl.MaxWidth+2; width++ {
		for size := range len(wordSizes) {
			word := wordsOfSizes(wordSizes[size : size+1])[0]
			fits := width >= 1 && width <= impl.MaxWidth && size >= 1 && size <= width
			for _, many := range []int{0, 1, 2, 4, impl.MaxWords - 1} {
				for _, at := range []int{0, many / 2, many} {
					words := slices.Insert(manyWords(many), at, word)
					if checkWrapped(t, words, width) != fits {
						t.Fatalf("a word of %d bytes fits the width %d, or not", size, width)
					}
					if !fits {
						checkNotWrapped(t, words, width)
					}
				}
			}
		}
	}
	for _, size := range []int{impl.MaxText, impl.MaxText + 1, 1000000} {
		checkNotWrapped(t, []string{strings.Repeat("w", size)}, impl.MaxWidth)
		checkNotWrapped(t, []string{"w", strings.Repeat("w", size), "w"}, impl.MaxWidth)
	}
}

// Up to MaxWords words fit, and none beyond, with every width.
func TestNumbersOfWords(t *testing.T) {
	for width := 1; width <= impl.MaxWidth; width++ {
		for n := range 2 * impl.MaxWords {
			for _, size := range []int{1, width, (width + 1) / 2, min(width, 3)} {
				words := slices.Repeat([]string{wordOfSize(size, n)}, n)
				if checkWrapped(t, words, width) != (n <= impl.MaxWords) {
					t.Fatalf("%d words of %d bytes fit the width %d, or not", n, size, width)
				}
				// Words of the same size stand in equally full lines, which cost least also for the first ones.
				full := max(1, (width+1)/(size+1))
				if n > impl.MaxWords {
					checkNotWrapped(t, words, width)
				} else if lines := impl.WrapGreedy(words, width); len(lines) != (n+full-1)/full || n > 0 && lines[0] != min(n, full) {
					t.Fatalf("the greedy lines of %d words of %d bytes are %v at the width %d", n, size, lines, width)
				}
			}
		}
	}
	for _, n := range []int{1000, 500000} {
		checkNotWrapped(t, manyWords(n), impl.MaxWidth)
	}
}

// All widths that are none, with words that would fit others, and with none.
func TestWidthsThatAreNone(t *testing.T) {
	for _, width := range widthsOutside {
		for _, letters := range append(textsUpTo(3, "0124E"), "3225", strings.Repeat("1", 20), strings.Repeat("E", 20), "F") {
			checkNotWrapped(t, wordsOfSizes(letters), width)
		}
		for _, note := range []string{"", "a", "a b", "two words", "a  b", strings.Repeat("a ", 19) + "a", strings.Repeat("w", 40), strings.Repeat("w", 41), strings.Repeat("w", 60), " ", "a ", "a\nb"} {
			if list := impl.WrapText(note, width); len(list) > 0 {
				t.Errorf("%q is wrapped at the width %d as %q", note, width, list)
			}
		}
	}
}

// All words of some small sizes, with all small widths.
func TestSmallWords(t *testing.T) {
	fit, others := 0, 0
	for _, letters := range slices.Concat(textsUpTo(6, "123"), textsUpTo(9, "12"), textsUpTo(4, "012345"), textsUpTo(5, "147")) {
		words := wordsOfSizes(letters)
		for width := range 10 {
			if checkWrapped(t, words, width) {
				fit++
			} else {
				others++
			}
		}
	}
	if fit < 10000 || others < 10000 {
		t.Errorf("%d small words fit, and %d do not", fit, others)
	}
}

// All words of some sizes, divided in all ways: the first division that costs least is taken.
func TestSmallWordsInAllDivisions(t *testing.T) {
	greedy, ties := 0, 0
	for _, letters := range slices.Concat(textsUpTo(8, "12"), textsUpTo(6, "134"), []string{"212113", "411133", "41231141", "52251151", "4123113141"}) {
		words := wordsOfSizes(letters)
		all := divisions(len(words))
		for width := 1; width <= 8; width++ {
			if !expectedFit(words, width) {
				continue
			}
			want := cheapest(words, width, all)
			if got := impl.WrapLines(words, width); !slices.Equal(got, want) {
				t.Fatalf("words of the sizes %s are wrapped at the width %d as %v and not as %v", letters, width, got, want)
			}
			least := expectedCost(words, width, want)
			if expectedCost(words, width, impl.WrapGreedy(words, width)) > least {
				greedy++
			}
			as := 0
			for _, lines := range all {
				if impl.WrapCost(words, width, lines) == least {
					as++
				}
			}
			if as > 1 {
				ties++
			}
		}
	}
	if greedy < 50 || ties < 100 {
		t.Errorf("%d greedy lines cost more, and %d others cost as little", greedy, ties)
	}
}

// Words in all numbers and of all sizes, with all widths.
func TestManyWordsAreWrapped(t *testing.T) {
	several, more := 0, 0
	for _, c := range wrapCases(151, 6000, impl.MaxWords) {
		if !checkWrapped(t, c.words, c.width) {
			t.Fatalf("%q do not fit %d", c.words, c.width)
		}
		lines, greedy := impl.WrapLines(c.words, c.width), impl.WrapGreedy(c.words, c.width)
		if len(lines) > 1 && len(lines) < len(c.words) {
			several++
		}
		if !slices.Equal(lines, greedy) {
			more++
		}
	}
	if several < 2000 || more < 500 {
		t.Errorf("%d words have several lines, and the greedy ones of %d are others", several, more)
	}
}

// Around words whose greedy lines cost more, and whose best lines are several, sizes, words and widths are changed.
func TestWordsNearThoseThatMatter(t *testing.T) {
	for _, c := range []struct {
		sizes string
		width int
	}{{"3225", 6}, {"212113", 4}, {"411133", 6}, {"7351357", 12}, {"41231141", 6}, {"4123113141", 6}, {"52251151", 8}, {"483885128113", 17}, {"214123113141", 6}, {"844583885128113", 18}} {
		for width := c.width - 2; width <= c.width+2; width++ {
			for at := range len(c.sizes) + 1 {
				for size := range 10 {
					letter := wordSizes[size : size+1]
					checkWrapped(t, wordsOfSizes(c.sizes[:at]+letter+c.sizes[at:]), width)
					if at < len(c.sizes) {
						checkWrapped(t, wordsOfSizes(c.sizes[:at]+letter+c.sizes[at+1:]), width)
					}
				}
			}
			checkWrapped(t, wordsOfSizes(c.sizes+c.sizes), width)
			checkWrapped(t, wordsOfSizes(c.sizes+"1"+c.sizes), width)
		}
	}
}

// A word that does not fit makes all words not fit, wherever it stands.
func TestWordsAmongThoseThatFit(t *testing.T) {
	bad := []string{"", " ", "a b", " a", "a ", "\n", "\t", "\x7f", "\x00", "\xff", "\xc3\xa4", "a\nb"}
	for k, c := range wrapCases(152, 300, impl.MaxWords-1) {
		long := wordOfSize(c.width+1, k)
		for at := range len(c.words) + 1 {
			for _, word := range append(bad, long) {
				checkNotWrapped(t, slices.Insert(slices.Clone(c.words), at, word), c.width)
			}
			if at < len(c.words) {
				changed := slices.Clone(c.words)
				changed[at] = long
				checkNotWrapped(t, changed, c.width)
			}
		}
	}
}

// Lines are given by any numbers, also by very many.
func TestCostsOfOtherLines(t *testing.T) {
	for _, n := range []int{0, 1, 2, 5, impl.MaxWords, impl.MaxWords + 1} {
		words := manyWords(n)
		for _, lines := range [][]int{singles(manyWords(100000)), make([]int, 100000), slices.Repeat([]int{-1}, 100000), append(singles(words), 0), append(singles(words), 1), append([]int{0}, singles(words)...)} {
			if cost := impl.WrapCost(words, 5, lines); cost != -1 {
				t.Errorf("%d words cost %d in %d lines", n, cost, len(lines))
			}
		}
	}
	// Small numbers that are right, too small, and too large, in all orders.
	numbers := []int{-1, 0, 1, 2, 3}
	for _, letters := range textsUpTo(5, "01234") {
		var lines []int
		for at := range letters {
			lines = append(lines, numbers[letters[at]-'0'])
		}
		for _, sizes := range []string{"", "1", "12", "2121", "11111", "3112"} {
			words := wordsOfSizes(sizes)
			if got, want := impl.WrapCost(words, 5, lines), expectedCost(words, 5, lines); got != want {
				t.Fatalf("words of the sizes %s cost %d in the lines %v and not %d", sizes, got, lines, want)
			}
		}
	}
}

// What stands before words and lines or behind them does not count, and nothing is written there; results are new.
func TestWrappedWordsStay(t *testing.T) {
	for _, c := range wrapCases(153, 600, impl.MaxWords) {
		room := slices.Concat([]string{"before", ""}, c.words, []string{"behind", "", "w"})
		before := slices.Clone(room)
		words := room[2 : 2+len(c.words)]
		lines, greedy := impl.WrapLines(words, c.width), impl.WrapGreedy(words, c.width)
		best, full := slices.Clone(lines), slices.Clone(greedy)
		for _, other := range [][]int{impl.WrapLines(words, c.width), impl.WrapGreedy(words, c.width)} {
			whole := other[:cap(other)]
			for k := range whole {
				whole[k] = 1000
			}
		}
		given := slices.Concat([]int{7}, best, []int{1, 1})
		if got := impl.WrapCost(words, c.width, given[1:1+len(best)]); got != expectedCost(c.words, c.width, best) {
			t.Fatalf("the lines %v cost %d", best, got)
		}
		if !slices.Equal(room, before) || !slices.Equal(given, slices.Concat([]int{7}, best, []int{1, 1})) {
			t.Fatalf("the words %q became %q, or the lines %v did", before, room, given)
		}
		for k := range room {
			room[k] = "other"
		}
		if !slices.Equal(lines, best) || !slices.Equal(greedy, full) || !slices.Equal(best, expectedWrapped(c.words, c.width)) || !slices.Equal(full, expectedGreedy(c.words, c.width)) {
			t.Fatalf("the lines of %q became %v and %v", c.words, lines, greedy)
		}
	}
}
