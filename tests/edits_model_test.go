package tests

import (
	"math"
	"math/rand"
	"regexp"
	"slices"
	"strings"
	"testing"

	"loop.example/configformatter/impl"
)

// change is an edit as it is written in the tests.
type change struct {
	From int
	To   int
	Text string
}

// editsOf returns the edits that are written.
func editsOf(list []change) []impl.Edit {
	var edits []impl.Edit
	for _, c := range list {
		edits = append(edits, impl.Edit(c))
	}
	return edits
}

// expectedTextOfEdits reports whether a text is valid.
func expectedTextOfEdits(s string) bool {
	return len(s) <= 20000 && strings.IndexFunc(s, func(r rune) bool { return r != '\n' && (r < ' ' || r > '~') }) < 0
}

// expectedEdits reports whether edits are ones of a text: every one is compared with the one before, and with all others.
func expectedEdits(s string, list []impl.Edit) bool {
	if !expectedTextOfEdits(s) || len(list) > 20 {
		return false
	}
	for k, e := range list {
		if e.From < 0 || e.To < e.From || e.To > len(s) || !expectedTextOfEdits(e.Text) || k > 0 && e.From < list[k-1].To {
			return false
		}
		for other := range list {
			if other != k && e.From == e.To && e.From == list[other].From {
				return false
			}
		}
	}
	return true
}

// changedText returns a text after edits that are ones of it, one by one, from the last one on backwards.
func changedText(s string, list []impl.Edit) string {
	for _, e := range slices.Backward(list) {
		s = s[:e.From] + e.Text + s[e.To:]
	}
	return s
}

// expectedChanged returns a text after edits, and whether it is there.
func expectedChanged(s string, list []impl.Edit) (string, bool) {
	if !expectedEdits(s, list) {
		return "", false
	}
	changed := changedText(s, list)
	if len(changed) > 20000 {
		return "", false
	}
	return changed, true
}

// expectedJoined returns the edits of two lists, place by place, and whether they are there.
func expectedJoined(s string, a []impl.Edit, b []impl.Edit) ([]impl.Edit, bool) {
	if !expectedEdits(s, a) || !expectedEdits(s, b) {
		return nil, false
	}
	var list []impl.Edit
	for place := range len(s) + 1 {
		for _, e := range slices.Concat(a, b) {
			if e.From == place {
				list = append(list, e)
			}
		}
	}
	if !expectedEdits(s, list) {
		return nil, false
	}
	return list, true
}

// expectedUndone returns the edits that lead back, and whether they are there: what stands before a place in the changed text is what the edits before it make of the text before it.
func expectedUndone(s string, list []impl.Edit) ([]impl.Edit, bool) {
	changed, ok := expectedChanged(s, list)
	if !ok {
		return nil, false
	}
	var undo []impl.Edit
	for k, e := range list {
		from, to := len(changedText(s[:e.From], list[:k])), len(changedText(s[:e.To], list[:k+1]))
		undo = append(undo, impl.Edit{From: from, To: to, Text: s[e.From:e.To]})
	}
	if !expectedEdits(changed, undo) {
		return nil, false
	}
	return undo, true
}

// wholeLine is a line with its line end, or what stands behind the last one.
var wholeLine = regexp.MustCompile(`[^\n]*\n|[^\n]+`)

// expectedLineEdits returns the edit between the lines that stay.
func expectedLineEdits(a string, b string) []impl.Edit {
	if !expectedTextOfEdits(a) || !expectedTextOfEdits(b) || a == b {
		return nil
	}
	old, changed := wholeLine.FindAllString(a, -1), wholeLine.FindAllString(b, -1)
	from := 0
	for len(old) > 0 && len(changed) > 0 && old[0] == changed[0] {
		from += len(old[0])
		old, changed = old[1:], changed[1:]
	}
	for len(old) > 0 && len(changed) > 0 && old[len(old)-1] == changed[len(changed)-1] {
		old, changed = old[:len(old)-1], changed[:len(changed)-1]
	}
	return []impl.Edit{{From: from, To: from + len(strings.Join(old, "")), Text: strings.Join(changed, "")}}
}

// shortEdits returns edits with short texts, for messages.
func shortEdits(list []impl.Edit) []impl.Edit {
	var short []impl.Edit
	for _, e := range list[:min(len(list), 30)] {
		short = append(short, impl.Edit{From: e.From, To: e.To, Text: e.Text[:min(len(e.Text), 30)]})
	}
	return short
}

// checkEdits compares what all functions return for edits with what is expected, and looks whether the edits stay. It returns whether they are ones of the text.
func checkEdits(t *testing.T, s string, list []impl.Edit) bool {
	t.Helper()
	before := slices.Clone(list)
	valid := expectedEdits(s, list)
	if got := impl.EditsValid(s, list); got != valid {
		t.Fatalf("%+v are edits of %.30q with %d bytes: %v", shortEdits(list), s, len(s), got)
	}
	changed, ok := impl.ApplyEdits(s, list)
	if want, wantOK := expectedChanged(s, list); changed != want || ok != wantOK {
		t.Fatalf("%+v change %.30q with %d bytes to %.30q with %d, %v, and not to %.30q with %d, %v", shortEdits(list), s, len(s), changed, len(changed), ok, want, len(want), wantOK)
	}
	undo, undone := impl.UndoEdits(s, list)
	if want, wantOK := expectedUndone(s, list); !slices.Equal(undo, want) || undone != wantOK {
		t.Fatalf("%+v of %.30q with %d bytes are undone by %+v, %v, and not by %+v, %v", shortEdits(list), s, len(s), shortEdits(undo), undone, shortEdits(want), wantOK)
	}
	if !slices.Equal(list, before) {
		t.Fatalf("%+v became %+v", shortEdits(before), shortEdits(list))
	}
	return valid
}

// checkNoEdits looks that edits that are none of a text are refused by all functions.
func checkNoEdits(t *testing.T, s string, list []impl.Edit) {
	t.Helper()
	if expectedEdits(s, list) {
		t.Fatalf("%+v are edits of %.30q with %d bytes", shortEdits(list), s, len(s))
	}
	checkEdits(t, s, list)
	if undo, ok := impl.UndoEdits(s, list); len(undo) > 0 || ok {
		t.Fatalf("%+v of %.30q with %d bytes are undone", shortEdits(list), s, len(s))
	}
	if changed, ok := impl.ApplyEdits(s, list); changed != "" || ok {
		t.Fatalf("%+v change %.30q with %d bytes", shortEdits(list), s, len(s))
	}
	for _, other := range [][]impl.Edit{nil, list} {
		for _, lists := range [][2][]impl.Edit{{list, other}, {other, list}} {
			if joined, ok := impl.JoinEdits(s, lists[0], lists[1]); len(joined) > 0 || ok {
				t.Fatalf("%+v of %.30q with %d bytes are joined with %+v", shortEdits(list), s, len(s), shortEdits(other))
			}
		}
	}
}

// checkJoined compares two lists that are joined, in both orders, with what is expected, and looks whether both stay. It returns whether they can be joined.
func checkJoined(t *testing.T, s string, a []impl.Edit, b []impl.Edit) bool {
	t.Helper()
	beforeA, beforeB := slices.Clone(a), slices.Clone(b)
	want, wantOK := expectedJoined(s, a, b)
	for _, lists := range [][2][]impl.Edit{{a, b}, {b, a}} {
		got, ok := impl.JoinEdits(s, lists[0], lists[1])
		if !slices.Equal(got, want) || ok != wantOK {
			t.Fatalf("%+v and %+v of %.30q with %d bytes are joined as %+v, %v, and not as %+v, %v", shortEdits(lists[0]), shortEdits(lists[1]), s, len(s), shortEdits(got), ok, shortEdits(want), wantOK)
		}
	}
	if !slices.Equal(a, beforeA) || !slices.Equal(b, beforeB) {
		t.Fatalf("%+v and %+v became %+v and %+v", shortEdits(beforeA), shortEdits(beforeB), shortEdits(a), shortEdits(b))
	}
	return wantOK
}

// checkLineEdits compares the edit of lines from a text to another one with what is expected, and returns whether there is one.
func checkLineEdits(t *testing.T, a string, b string) bool {
	t.Helper()
	got, want := impl.LineEdits(a, b), expectedLineEdits(a, b)
	if !slices.Equal(got, want) {
		t.Fatalf("the edits of lines from %.60q with %d bytes to %.60q with %d are %+v and not %+v", a, len(a), b, len(b), shortEdits(got), shortEdits(want))
	}
	return len(got) > 0
}

// allEdits returns every edit with places in low..high, and one of some texts.
func allEdits(low int, high int, texts ...string) []impl.Edit {
	var list []impl.Edit
	for from := low; from <= high; from++ {
		for to := low; to <= high; to++ {
			for _, text := range texts {
				list = append(list, impl.Edit{From: from, To: to, Text: text})
			}
		}
	}
	return list
}

// editCase is edits of a text.
type editCase struct {
	text string
	list []impl.Edit
}

// randomText returns a text of so many letters and line ends.
func randomText(r *rand.Rand, length int) string {
	text := make([]byte, length)
	for at := range text {
		text[at] = "abcdefgh \n"[r.Intn(10)]
	}
	return string(text)
}

// randomEdits returns at most so many edits of a text, of which each begins at most gap bytes behind the one before, and removes and puts in at most size bytes.
func randomEdits(r *rand.Rand, s string, many int, gap int, size int) []impl.Edit {
	var list []impl.Edit
	at := 0
	for len(list) < many {
		from := at + r.Intn(gap+1)
		to := from + r.Intn(size+1)
		if len(list) > 0 && from == list[len(list)-1].From {
			from, to = from+1, to+1
		}
		if to > len(s) {
			break
		}
		list = append(list, impl.Edit{From: from, To: to, Text: randomText(r, r.Intn(size+1))})
		at = to
	}
	return list
}

// editCases returns texts with edits of them, in all numbers, of which many touch, remove nothing, or put in nothing.
func editCases(seed int64, many int) []editCase {
	r := rand.New(rand.NewSource(seed))
	var list []editCase
	for k := range many {
		s := randomText(r, r.Intn(90))
		list = append(list, editCase{s, randomEdits(r, s, k%(impl.MaxEdits+1), k%4, 1+r.Intn(4))})
	}
	return list
}

// spoiledEdits returns edits with a number or a text changed, an edit left out or put in, and two exchanged, at every place.
func spoiledEdits(list []impl.Edit) [][]impl.Edit {
	var spoiled [][]impl.Edit
	for at, e := range list {
		for _, by := range []int{-1, 1, -e.From - 1, math.MinInt, math.MaxInt} {
			for _, other := range []impl.Edit{{From: e.From + by, To: e.To, Text: e.Text}, {From: e.From, To: e.To + by, Text: e.Text}, {From: e.From + by, To: e.To + by, Text: e.Text}} {
				changed := slices.Clone(list)
				changed[at] = other
				spoiled = append(spoiled, changed)
			}
		}
		for _, text := range []string{"", e.Text + "\x01", e.Text + "\x7f"} {
			changed := slices.Clone(list)
			changed[at].Text = text
			spoiled = append(spoiled, changed)
		}
		for _, more := range []impl.Edit{e, {From: e.From, To: e.From}, {From: e.To, To: e.To, Text: "x"}} {
			spoiled = append(spoiled, slices.Insert(slices.Clone(list), at, more), slices.Insert(slices.Clone(list), at+1, more))
		}
		spoiled = append(spoiled, slices.Delete(slices.Clone(list), at, at+1))
		if at > 0 {
			changed := slices.Clone(list)
			changed[at-1], changed[at] = changed[at], changed[at-1]
			spoiled = append(spoiled, changed)
		}
	}
	return spoiled
}

// divided returns the edits that bits choose, and the others.
func divided(list []impl.Edit, bits int) ([]impl.Edit, []impl.Edit) {
	var a, b []impl.Edit
	for k, e := range list {
		if bits>>k&1 == 1 {
			a = append(a, e)
		} else {
			b = append(b, e)
		}
	}
	return a, b
}
