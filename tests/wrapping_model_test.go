package tests

import (
	"math/rand"
	"regexp"
	"slices"
	"strings"
	"testing"

	"loop.example/configformatter/impl"
)

// plainWord is what a word consists of.
var plainWord = regexp.MustCompile(`\A[!-~]+\z`)

// expectedFit reports whether words fit a width.
func expectedFit(words []string, width int) bool {
	if width < 1 || width > 40 || len(words) > 20 {
		return false
	}
	return !slices.ContainsFunc(words, func(word string) bool { return len(word) > width || !plainWord.MatchString(word) })
}

// joinedLines returns the texts of lines, and whether every line has a word and all of them have exactly all words.
func joinedLines(words []string, lines []int) ([]string, bool) {
	var list []string
	for _, many := range lines {
		if many < 1 || many > len(words) {
			return nil, false
		}
		list = append(list, strings.Join(words[:many], " "))
		words = words[many:]
	}
	return list, len(words) == 0
}

// expectedCost returns the cost of lines by their texts.
func expectedCost(words []string, width int, lines []int) int {
	list, ok := joinedLines(words, lines)
	if !ok || !expectedFit(words, width) || slices.ContainsFunc(list, func(line string) bool { return len(line) > width }) {
		return -1
	}
	cost := 0
	for at := 0; at+1 < len(list); at++ {
		missing := width - len(list[at])
		cost += missing * missing
	}
	return cost
}

// divisions returns all ways to divide so many words into lines; first those whose first line has the most words, then the second one, and so on.
func divisions(n int) [][]int {
	if n == 0 {
		return [][]int{nil}
	}
	var list [][]int
	for many := n; many > 0; many-- {
		for _, others := range divisions(n - many) {
			list = append(list, append([]int{many}, others...))
		}
	}
	return list
}

// cheapest returns the first one of some lines with the least cost; nil if none of them has any.
func cheapest(words []string, width int, some [][]int) []int {
	var found []int
	least := -1
	for _, lines := range some {
		if cost := expectedCost(words, width, lines); cost >= 0 && (least < 0 || cost < least) {
			least, found = cost, lines
		}
	}
	return found
}

// costsFrom returns for every word what the lines from it on cost at least, and 0 for the end, from the last word to the first one.
func costsFrom(words []string, width int) []int {
	costs := make([]int, len(words)+1)
	for from := len(words) - 1; from >= 0; from-- {
		costs[from] = 1000000
		for end := from + 1; end <= len(words); end++ {
			missing := width - len(strings.Join(words[from:end], " "))
			if missing < 0 {
				break
			}
			if end == len(words) {
				missing = 0
			}
			costs[from] = min(costs[from], missing*missing+costs[end])
		}
	}
	return costs
}

// expectedWrapped returns the lines with the least cost: from the first word on, as many words in every line as the least costs allow.
func expectedWrapped(words []string, width int) []int {
	if !expectedFit(words, width) {
		return nil
	}
	costs := costsFrom(words, width)
	var lines []int
	for from := 0; from < len(words); from += lines[len(lines)-1] {
		for end := len(words); end > from; end-- {
			missing := width - len(strings.Join(words[from:end], " "))
			if missing < 0 {
				continue
			}
			if end == len(words) {
				missing = 0
			}
			if missing*missing+costs[end] == costs[from] {
				lines = append(lines, end-from)
				break
			}
		}
	}
	return lines
}

// expectedGreedy returns lines that end at the last space which stands at most at the width.
func expectedGreedy(words []string, width int) []int {
	if !expectedFit(words, width) {
		return nil
	}
	var lines []int
	rest := strings.Join(words, " ")
	for rest != "" {
		line := rest
		if len(rest) > width {
			line = rest[:strings.LastIndex(rest[:width+1], " ")]
		}
		lines = append(lines, strings.Count(line, " ")+1)
		rest = strings.TrimPrefix(rest[len(line):], " ")
	}
	return lines
}

// wordsOfNote are the parts of a note between spaces.
var wordsOfNote = regexp.MustCompile(`[^ ]+`)

// expectedWrappedNote returns the lines of a note.
func expectedWrappedNote(note string, width int) []string {
	if !expectedNote(note) {
		return nil
	}
	words := wordsOfNote.FindAllString(note, -1)
	list, _ := joinedLines(words, expectedWrapped(words, width))
	return list
}

// wordSizes has at every place the letter of a word of so many bytes, up to one more than MaxWidth.
const wordSizes = "0123456789abcdefghijklmnopqrstuvwxyzABCDEF"

// wordOfSize returns a word of so many bytes; number chooses which ones.
func wordOfSize(size int, number int) string {
	word := make([]byte, size)
	for at := range word {
		word[at] = byte(33 + (number*17+at)%94)
	}
	return string(word)
}

// wordsOfSizes returns a word for every letter, of as many bytes as wordSizes tells.
func wordsOfSizes(letters string) []string {
	var words []string
	for at := range len(letters) {
		words = append(words, wordOfSize(strings.IndexByte(wordSizes, letters[at]), at))
	}
	return words
}

// sizesOfWords returns the numbers of bytes of words.
func sizesOfWords(words []string) []int {
	var sizes []int
	for _, word := range words {
		sizes = append(sizes, len(word))
	}
	return sizes
}

// singles returns the lines in which every word stands alone.
func singles(words []string) []int {
	return slices.Repeat([]int{1}, len(words))
}

// randomDivision returns some way to divide so many words into lines of at most so many.
func randomDivision(r *rand.Rand, n int, most int) []int {
	var lines []int
	for n > 0 {
		many := min(n, 1+r.Intn(most))
		lines = append(lines, many)
		n -= many
	}
	return lines
}

// spoiledLines returns lines with a number changed, left out or put in, at every place.
func spoiledLines(lines []int) [][]int {
	const huge = int(^uint(0) >> 1)
	list := [][]int{nil, {0}, {len(lines)}}
	for at := range len(lines) + 1 {
		for _, more := range []int{-1, 0, 1, huge, -huge - 1} {
			list = append(list, slices.Insert(slices.Clone(lines), at, more))
		}
		if at == len(lines) {
			break
		}
		list = append(list, slices.Delete(slices.Clone(lines), at, at+1))
		for _, by := range []int{-lines[at], -1, 1, huge, -huge - 1} {
			changed := slices.Clone(lines)
			changed[at] += by
			list = append(list, changed)
		}
		if at > 0 {
			moved := slices.Clone(lines)
			moved[at-1]--
			moved[at]++
			list = append(list, moved)
		}
	}
	return list
}

// checkCosts compares the cost of lines, and of those that are near them, with what is expected.
func checkCosts(t *testing.T, words []string, width int, lines []int) {
	t.Helper()
	for _, some := range append(spoiledLines(lines), lines) {
		before := slices.Clone(some)
		if got, want := impl.WrapCost(words, width, some), expectedCost(words, width, some); got != want {
			t.Fatalf("the cost of %v for %q at the width %d is %d and not %d", some, words, width, got, want)
		}
		if !slices.Equal(some, before) {
			t.Fatalf("the lines %v became %v", before, some)
		}
	}
}

// checkWrapped compares what all functions return for words with what is expected, and looks whether the words stay. It returns whether they fit.
func checkWrapped(t *testing.T, words []string, width int) bool {
	t.Helper()
	before := slices.Clone(words)
	fits := expectedFit(words, width)
	if got := impl.WordsFit(words, width); got != fits {
		t.Fatalf("words of the sizes %.80v fit the width %d: %v", sizesOfWords(words), width, got)
	}
	lines, greedy := impl.WrapLines(words, width), impl.WrapGreedy(words, width)
	if want := expectedWrapped(words, width); !slices.Equal(lines, want) {
		t.Fatalf("words of the sizes %.80v are wrapped at the width %d as %v and not as %v", sizesOfWords(words), width, lines, want)
	}
	if want := expectedGreedy(words, width); !slices.Equal(greedy, want) {
		t.Fatalf("the greedy lines of words of the sizes %.80v are %v at the width %d and not %v", sizesOfWords(words), greedy, width, want)
	}
	if fits {
		checkCosts(t, words, width, lines)
		for _, some := range [][]int{greedy, singles(words), {len(words)}} {
			if got, want := impl.WrapCost(words, width, some), expectedCost(words, width, some); got != want {
				t.Fatalf("the cost of %v for words of the sizes %v at the width %d is %d and not %d", some, sizesOfWords(words), width, got, want)
			}
		}
	}
	if !slices.Equal(words, before) {
		t.Fatalf("the words %.300q became %.300q", before, words)
	}
	return fits
}

// checkNotWrapped looks that words that do not fit a width have neither lines nor costs.
func checkNotWrapped(t *testing.T, words []string, width int) {
	t.Helper()
	if impl.WordsFit(words, width) || expectedFit(words, width) {
		t.Fatalf("words of the sizes %.80v fit the width %d", sizesOfWords(words), width)
	}
	if lines, greedy := impl.WrapLines(words, width), impl.WrapGreedy(words, width); len(lines) > 0 || len(greedy) > 0 {
		t.Fatalf("words of the sizes %.80v have the lines %.80v and the greedy lines %.80v at the width %d", sizesOfWords(words), lines, greedy, width)
	}
	for _, lines := range [][]int{nil, {}, {0}, {1}, {len(words)}, singles(words), {len(words), 0}} {
		if cost := impl.WrapCost(words, width, lines); cost != -1 {
			t.Fatalf("words of the sizes %.80v cost %d in the lines %.80v at the width %d", sizesOfWords(words), cost, lines, width)
		}
	}
	checkWrapped(t, words, width)
}

// madeWords returns so many words of 1 to most bytes; every third list has mostly short ones, and every third mostly long ones.
func madeWords(r *rand.Rand, many int, most int) []string {
	kind := r.Intn(3)
	var words []string
	for range many {
		size := 1 + r.Intn(most)
		switch kind {
		case 1:
			size = min(size, 1+r.Intn(most))
		case 2:
			size = max(size, 1+r.Intn(most))
		}
		words = append(words, wordOfSize(size, r.Intn(94)))
	}
	return words
}

// wrapCase is words with a width that they fit.
type wrapCase struct {
	words []string
	width int
}

// wrapCases returns words in all numbers and widths of all sizes, of which many have lines with several words; most is the greatest number of words.
func wrapCases(seed int64, many int, most int) []wrapCase {
	r := rand.New(rand.NewSource(seed))
	var list []wrapCase
	for k := range many {
		width := 1 + r.Intn(impl.MaxWidth)
		if k%2 == 0 {
			width = 3 + r.Intn(16)
		}
		// Mostly two to five words stand in a line, so that there are other lines that cost nearly as much.
		size := 1 + width*(20+r.Intn(50))/100
		if k%5 == 0 {
			size = 1 + r.Intn(width)
		}
		list = append(list, wrapCase{madeWords(r, k%(most+1), min(size, width)), width})
	}
	return list
}

// checkWrappedNote compares the lines of a note with those that are expected, and returns whether there are any.
func checkWrappedNote(t *testing.T, note string, width int) bool {
	t.Helper()
	list, want := impl.WrapText(note, width), expectedWrappedNote(note, width)
	if !slices.Equal(list, want) {
		t.Fatalf("%.200q is wrapped at the width %d as %q and not as %q", note, width, list, want)
	}
	return len(list) > 0
}

// spacedNote returns words with some spaces between them, of which mostly one stands there; not all words if they have no room in a note.
func spacedNote(r *rand.Rand, words []string) string {
	note := ""
	for _, word := range words {
		spaces := max(1, r.Intn(6)-2)
		if note == "" {
			spaces = 0
		}
		more := note + strings.Repeat(" ", spaces) + word
		if len(more) > impl.MaxNote {
			break
		}
		note = more
	}
	return note
}

// noteCase is a note with a width that its words fit.
type noteCase struct {
	note  string
	width int
}

// noteCases returns notes of all lengths whose words fit a width.
func noteCases(seed int64, many int) []noteCase {
	r := rand.New(rand.NewSource(seed))
	var list []noteCase
	for _, c := range wrapCases(seed, many, impl.MaxWords) {
		note := spacedNote(r, c.words)
		list = append(list, noteCase{note, c.width})
		// Shorter words, so that several of them have room in a note.
		width := min(impl.MaxWidth, 4+r.Intn(16))
		list = append(list, noteCase{spacedNote(r, madeWords(r, len(c.words), 1+width/2)), width})
	}
	return list
}
