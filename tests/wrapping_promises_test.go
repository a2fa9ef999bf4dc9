package tests

import (
	"math/rand"
	"slices"
	"strings"
	"testing"

	"loop.example/configformatter/impl"
)

// promisedWords returns words that fit a width: in all numbers, small ones with all small widths, and those whose greedy lines cost more.
func promisedWords(seed int64, many int, most int) []wrapCase {
	list := wrapCases(seed, many, most)
	sizes := append(textsUpTo(5, "123"), "3225", "212113", "411133", "41231141", "52251151", "7351357")
	for _, letters := range sizes {
		words := wordsOfSizes(letters)
		for width := 1; width <= 12 && len(words) <= most; width++ {
			if expectedFit(words, width) {
				list = append(list, wrapCase{words, width})
			}
		}
	}
	return list
}

// lengthsOfLines returns the numbers of bytes of lines that have exactly all words.
func lengthsOfLines(t *testing.T, words []string, lines []int) []int {
	t.Helper()
	var lengths []int
	at := 0
	for _, many := range lines {
		if many < 1 || at+many > len(words) {
			t.Fatalf("%v are no lines of %d words", lines, len(words))
		}
		length := many - 1
		for range many {
			length += len(words[at])
			at++
		}
		lengths = append(lengths, length)
	}
	if at != len(words) {
		t.Fatalf("%v are no lines of %d words", lines, len(words))
	}
	return lengths
}

// Promise 6: wrapped lines cost least.
func TestWrappedLinesCostLeast(t *testing.T) {
	dear := 0
	for _, c := range promisedWords(6, 6000, 11) {
		lines := impl.WrapLines(c.words, c.width)
		cost := impl.WrapCost(c.words, c.width, lines)
		if cost < 0 {
			t.Fatalf("%v are no lines of words of the sizes %v at the width %d", lines, sizesOfWords(c.words), c.width)
		}
		for _, others := range divisions(len(c.words)) {
			other := impl.WrapCost(c.words, c.width, others)
			if other >= 0 && other < cost {
				t.Fatalf("words of the sizes %v cost %d in the lines %v at the width %d, and %d in %v", sizesOfWords(c.words), cost, lines, c.width, other, others)
			}
			if other == cost && slices.Compare(others, lines) > 0 {
				t.Fatalf("words of the sizes %v cost as much in the lines %v at the width %d as in %v", sizesOfWords(c.words), lines, c.width, others)
			}
		}
		greedy := impl.WrapCost(c.words, c.width, impl.WrapGreedy(c.words, c.width))
		alone := impl.WrapCost(c.words, c.width, singles(c.words))
		if greedy < cost || alone < cost {
			t.Fatalf("words of the sizes %v cost %d at the width %d, but %d in greedy lines, and %d alone", sizesOfWords(c.words), cost, c.width, greedy, alone)
		}
		if greedy > cost {
			dear++
		}
	}
	if dear < 200 {
		t.Errorf("%d greedy lines cost more", dear)
	}
}

// Promise 6, for more words: no lines near the best ones cost less, and no others that are looked at.
func TestManyWrappedLinesCostLeast(t *testing.T) {
	r := rand.New(rand.NewSource(161))
	dear := 0
	for _, c := range promisedWords(162, 1500, impl.MaxWords) {
		lines := impl.WrapLines(c.words, c.width)
		cost := impl.WrapCost(c.words, c.width, lines)
		some := append(spoiledLines(lines), impl.WrapGreedy(c.words, c.width), singles(c.words))
		for k := range 100 {
			some = append(some, randomDivision(r, len(c.words), 1+k%5))
		}
		for _, others := range some {
			other := impl.WrapCost(c.words, c.width, others)
			if cost < 0 || other >= 0 && other < cost || other == cost && slices.Compare(others, lines) > 0 {
				t.Fatalf("words of the sizes %v cost %d in the lines %v at the width %d, and %d in %v", sizesOfWords(c.words), cost, lines, c.width, other, others)
			}
			if other > cost {
				dear++
			}
		}
	}
	if dear < 10000 {
		t.Errorf("%d other lines cost more", dear)
	}
}

// Promise 6: what remains behind the first lines, and what stands before the last ones, is wrapped as it is alone.
func TestPartsOfWrappedLinesCostLeast(t *testing.T) {
	for _, c := range promisedWords(163, 2000, impl.MaxWords) {
		lines := impl.WrapLines(c.words, c.width)
		at := 0
		for k, many := range lines {
			if got := impl.WrapLines(c.words[at:], c.width); !slices.Equal(got, lines[k:]) {
				t.Fatalf("words of the sizes %v are wrapped at the width %d as %v, but the last %d of them as %v", sizesOfWords(c.words), c.width, lines, len(c.words)-at, got)
			}
			at += many
			// A word of the width behind them has a line of its own, so that no line before it is the last one.
			if long := append(slices.Clone(c.words[:at]), wordOfSize(c.width, 0)); k < len(lines)-1 {
				if got := impl.WrapLines(long, c.width); len(long) <= impl.MaxWords && !slices.Equal(got, append(slices.Clone(lines[:k+1]), 1)) {
					t.Fatalf("words of the sizes %v are wrapped at the width %d as %v, but with a long one behind the first %d of them as %v", sizesOfWords(c.words), c.width, lines, at, got)
				}
			}
		}
	}
}

// Promise 55: words fit wider lines.
func TestWordsFitWiderLines(t *testing.T) {
	for k, c := range promisedWords(55, 1500, impl.MaxWords) {
		for width := c.width; width <= impl.MaxWidth+2; width++ {
			if impl.WordsFit(c.words, width) != (width <= impl.MaxWidth) {
				t.Fatalf("words of the sizes %v fit %d, and %d not", sizesOfWords(c.words), c.width, width)
			}
		}
		at := k % (len(c.words) + 1)
		if impl.WordsFit(slices.Insert(slices.Clone(c.words), at, ""), c.width) {
			t.Fatalf("words of the sizes %v with an empty one at %d fit", sizesOfWords(c.words), at)
		}
		for at, word := range c.words {
			changed := slices.Clone(c.words)
			changed[at] = ""
			if impl.WordsFit(changed, c.width) || !impl.WordsFit(c.words[:at], c.width) || !impl.WordsFit(c.words[at:], c.width) || impl.WordsFit(c.words, len(word)-1) {
				t.Fatalf("words of the sizes %v with an empty one at %d fit", sizesOfWords(c.words), at)
			}
		}
	}
}

// Promise 56: costs are sums of squares.
func TestCostsAreSumsOfSquares(t *testing.T) {
	r := rand.New(rand.NewSource(56))
	costs := 0
	for k, c := range promisedWords(156, 3000, impl.MaxWords) {
		lines := randomDivision(r, len(c.words), 1+k%4)
		cost := impl.WrapCost(c.words, c.width, lines)
		lengths := lengthsOfLines(t, c.words, lines)
		if (cost < 0) != slices.ContainsFunc(lengths, func(length int) bool { return length > c.width }) || cost < -1 {
			t.Fatalf("lines of %v bytes cost %d at the width %d", lengths, cost, c.width)
		}
		single := impl.WrapCost(c.words, c.width, []int{len(c.words)})
		if fits := len(c.words) > 0 && len(strings.Join(c.words, " ")) <= c.width; fits != (single == 0) || !fits && single != -1 {
			t.Fatalf("words of the sizes %v cost %d in one line at the width %d", sizesOfWords(c.words), single, c.width)
		}
		if cost < 0 {
			continue
		}
		costs++
		sum := 0
		for at, length := range lengths {
			if at < len(lengths)-1 {
				sum += (c.width - length) * (c.width - length)
			}
		}
		if cost != sum {
			t.Fatalf("lines of %v bytes cost %d at the width %d", lengths, cost, c.width)
		}
		// With a line more the one that was the last costs, too.
		if len(lines) == 0 || len(c.words) == impl.MaxWords {
			continue
		}
		missing := c.width - lengths[len(lengths)-1]
		more := impl.WrapCost(append(slices.Clone(c.words), "w"), c.width, append(slices.Clone(lines), 1))
		if more != cost+missing*missing {
			t.Fatalf("lines of %v bytes cost %d at the width %d, and with one more %d", lengths, cost, c.width, more)
		}
	}
	if costs < 1500 {
		t.Errorf("%d lines have costs", costs)
	}
}

// Promise 57: greedy lines are as full as they can be.
func TestGreedyLinesAreFull(t *testing.T) {
	next := 0
	for _, c := range promisedWords(57, 4000, impl.MaxWords) {
		lines := impl.WrapGreedy(c.words, c.width)
		if impl.WrapCost(c.words, c.width, lines) < 0 {
			t.Fatalf("%v are no lines of words of the sizes %v at the width %d", lines, sizesOfWords(c.words), c.width)
		}
		lengths := lengthsOfLines(t, c.words, lines)
		at := 0
		for k, many := range lines {
			at += many
			if lengths[k] > c.width {
				t.Fatalf("words of the sizes %v have a line of %d bytes at the width %d", sizesOfWords(c.words), lengths[k], c.width)
			}
			if at < len(c.words) && lengths[k]+1+len(c.words[at]) <= c.width {
				t.Fatalf("words of the sizes %v have the lines %v at the width %d, and line %d is not full", sizesOfWords(c.words), lines, c.width, k)
			}
			if at < len(c.words) && lengths[k]+1+len(c.words[at]) == c.width+1 {
				next++
			}
		}
	}
	if next < 500 {
		t.Errorf("%d words nearly fit a line before them", next)
	}
}

// Promise 58: wrapped texts have all words.
func TestWrappedTextsHaveAllWords(t *testing.T) {
	spaces := 0
	for _, c := range noteCases(58, 2500) {
		list := impl.WrapText(c.note, c.width)
		words := strings.Fields(c.note)
		lines := impl.WrapLines(words, c.width)
		if len(list) != len(lines) || !slices.Equal(strings.Fields(strings.Join(list, " ")), words) {
			t.Fatalf("%q is wrapped at the width %d as %q, and its words in the lines %v", c.note, c.width, list, lines)
		}
		if strings.Join(list, " ") != strings.Join(words, " ") {
			t.Fatalf("%q is wrapped at the width %d as %q", c.note, c.width, list)
		}
		for k, line := range list {
			if len(line) > c.width || strings.Count(line, " ")+1 != lines[k] || !impl.NoteValid(line) {
				t.Fatalf("%q is wrapped at the width %d as %q, and its words in the lines %v", c.note, c.width, list, lines)
			}
		}
		if strings.Contains(c.note, "  ") {
			spaces++
		}
		// Other spaces between the words change nothing.
		if single := strings.Join(words, " "); !slices.Equal(impl.WrapText(single, c.width), list) {
			t.Fatalf("%q is wrapped at the width %d as %q, and %q not", c.note, c.width, list, single)
		}
	}
	if spaces < 1000 {
		t.Errorf("%d notes have several spaces", spaces)
	}
}

// Promise 58, for all notes: words that do not fit have no lines.
func TestOtherNotesHaveNoLines(t *testing.T) {
	for k, note := range notesToPromise() {
		for _, width := range []int{1 + k%impl.MaxWidth, impl.MaxWidth} {
			words := strings.Fields(note)
			list := impl.WrapText(note, width)
			if (len(list) > 0) != (impl.WordsFit(words, width) && len(words) > 0) || len(list) != len(impl.WrapLines(words, width)) {
				t.Fatalf("%q is wrapped at the width %d as %q", note, width, list)
			}
			checkWrappedNote(t, note, width)
		}
	}
}

// Promise 100: wider lines are not more.
func TestWiderLinesAreNotMore(t *testing.T) {
	fewer := 0
	for _, c := range promisedWords(100, 3000, impl.MaxWords) {
		before := len(impl.WrapGreedy(c.words, c.width))
		for width := c.width + 1; width <= impl.MaxWidth; width++ {
			many := len(impl.WrapGreedy(c.words, width))
			if many > before || many == 0 && len(c.words) > 0 {
				t.Fatalf("words of the sizes %v have %d greedy lines at the width %d, and %d at one less", sizesOfWords(c.words), many, width, before)
			}
			if many < before {
				fewer++
			}
			before = many
		}
	}
	if fewer < 5000 {
		t.Errorf("%d greedy lines are fewer", fewer)
	}
}
