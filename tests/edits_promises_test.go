package tests

import (
	"math/rand"
	"slices"
	"strings"
	"testing"

	"loop.example/configformatter/impl"
)

// promisedEdits returns texts with edits of them: made ones in all numbers, all pairs of small ones, and long ones.
func promisedEdits(seed int64, many int) []editCase {
	list := editCases(seed, many)
	for _, s := range []string{"", "a", "ab", "abc"} {
		some := allEdits(0, len(s), "", "x", "yz")
		for _, first := range some {
			list = append(list, editCase{s, []impl.Edit{first}})
			for _, second := range some {
				list = append(list, editCase{s, []impl.Edit{first, second}})
			}
		}
	}
	list = slices.DeleteFunc(list, func(c editCase) bool { return !expectedEdits(c.text, c.list) })
	full := strings.Repeat("abc\n", impl.MaxText/4)
	half := full[:impl.MaxText/2]
	return append(list,
		editCase{full, nil}, editCase{full, []impl.Edit{{From: 0, To: impl.MaxText}}}, editCase{full, []impl.Edit{{From: 0, To: impl.MaxText, Text: full}}}, editCase{"", []impl.Edit{{Text: full}}}, editCase{"a", []impl.Edit{{Text: full}}},
		editCase{half, []impl.Edit{{From: 1, To: 2, Text: half}}}, editCase{half, []impl.Edit{{From: 1, To: 1, Text: half}}}, editCase{half, []impl.Edit{{From: 1, To: 1, Text: half}, {From: 7, To: 8}}}, editCase{half, []impl.Edit{{From: 1, To: 2}, {From: 7, To: 7, Text: half}}}, editCase{half, []impl.Edit{{From: 1, To: 100}, {From: 101, To: 102, Text: full}}},
	)
}

// Promise 7: edits can be undone.
func TestEditsCanBeUndone(t *testing.T) {
	undone, refused := 0, 0
	for _, c := range promisedEdits(7, 6000) {
		changed, possible := impl.ApplyEdits(c.text, c.list)
		undo, ok := impl.UndoEdits(c.text, c.list)
		// They can be undone unless one that puts in nothing touches the next one.
		touch := false
		for k := 1; k < len(c.list); k++ {
			touch = touch || c.list[k-1].Text == "" && c.list[k-1].To == c.list[k].From
		}
		if ok != (possible && !touch) {
			t.Fatalf("%+v of %.90q with %d bytes are undone: %v", shortEdits(c.list), c.text, len(c.text), ok)
		}
		if !ok {
			refused++
			continue
		}
		if back, ok := impl.ApplyEdits(changed, undo); back != c.text || !ok {
			t.Fatalf("%+v change %.90q to %.90q, and %+v change that to %.90q, %v", shortEdits(c.list), c.text, changed, shortEdits(undo), back, ok)
		}
		if len(undo) != len(c.list) {
			t.Fatalf("%+v of %.90q are undone by %+v", shortEdits(c.list), c.text, shortEdits(undo))
		}
		for k, e := range c.list {
			if changed[undo[k].From:undo[k].To] != e.Text || undo[k].Text != c.text[e.From:e.To] {
				t.Fatalf("%+v of %.90q is undone by %+v", e, c.text, undo[k])
			}
		}
		undone++
	}
	if undone < 3000 || refused < 500 {
		t.Errorf("%d edits are undone, and %d are not", undone, refused)
	}
}

// Promise 59: edits stand apart.
func TestEditsStandApart(t *testing.T) {
	r := rand.New(rand.NewSource(591))
	for _, c := range promisedEdits(59, 4000) {
		n := len(c.text)
		if !impl.EditsValid(c.text, c.list) {
			t.Fatalf("%+v are no edits of %.90q", shortEdits(c.list), c.text)
		}
		for at := range len(c.list) + 1 {
			some, others := divided(c.list, r.Int())
			for _, part := range [][]impl.Edit{c.list[:at], c.list[at:], some, others} {
				if !impl.EditsValid(c.text, part) {
					t.Fatalf("the part %+v of the edits %+v of %.90q is not valid", shortEdits(part), shortEdits(c.list), c.text)
				}
			}
			for _, more := range []impl.Edit{{From: n, To: n + 1}, {From: n + 1, To: n + 1}, {From: n + 1, To: n + 2, Text: "x"}, {From: n + 1000, To: n + 1000, Text: "x"}} {
				if impl.EditsValid(c.text, slices.Insert(slices.Clone(c.list), at, more)) {
					t.Fatalf("%+v are edits of %.90q, with %+v at %d", shortEdits(c.list), c.text, more, at)
				}
			}
		}
		for k, e := range c.list {
			if k > 0 && (e.From <= c.list[k-1].From || e.From < c.list[k-1].To) {
				t.Fatalf("%+v are edits of %.90q", shortEdits(c.list), c.text)
			}
		}
	}
}

// oneByOne returns a text after edits, one by one from the last one on backwards, and whether all of these are possible.
func oneByOne(s string, list []impl.Edit) (string, bool) {
	for _, e := range slices.Backward(list) {
		changed, ok := impl.ApplyEdits(s, []impl.Edit{e})
		if !ok {
			return "", false
		}
		s = changed
	}
	return s, true
}

// Promise 60: edits change texts.
func TestEditsChangeTexts(t *testing.T) {
	possible, tooLong := 0, 0
	for _, c := range promisedEdits(60, 6000) {
		for _, none := range [][]impl.Edit{nil, {}} {
			if same, ok := impl.ApplyEdits(c.text, none); same != c.text || !ok {
				t.Fatalf("without edits %.90q becomes %.90q, %v", c.text, same, ok)
			}
		}
		changed, ok := impl.ApplyEdits(c.text, c.list)
		length := len(c.text)
		for _, e := range c.list {
			length += len(e.Text) - (e.To - e.From)
		}
		if ok != (length <= impl.MaxText) || ok && len(changed) != length {
			t.Fatalf("%+v change %.90q with %d bytes to %.90q with %d, %v, and not with %d", shortEdits(c.list), c.text, len(c.text), changed, len(changed), ok, length)
		}
		if !ok {
			tooLong++
			continue
		}
		if !impl.TextValid(changed) {
			t.Fatalf("%+v change %.90q to %.90q", shortEdits(c.list), c.text, changed)
		}
		if other, all := oneByOne(c.text, c.list); all && other != changed {
			t.Fatalf("%+v change %.90q to %.90q, and one by one to %.90q", shortEdits(c.list), c.text, changed, other)
		} else if all && len(c.list) > 1 {
			possible++
		}
	}
	if possible < 3000 || tooLong < 2 {
		t.Errorf("%d edits are possible one by one, and %d texts become too long", possible, tooLong)
	}
}

// Promise 60: what is too long one by one may be possible all at once.
func TestEditsAreDoneAllAtOnce(t *testing.T) {
	s := strings.Repeat("ab\n", 5000)
	list := []impl.Edit{{From: 0, To: 15000 - 1}, {From: 15000, To: 15000, Text: s}}
	changed, ok := impl.ApplyEdits(s, list)
	if _, all := oneByOne(s, list); all || !ok || changed != "\n"+s {
		t.Errorf("%+v change a text to %.30q with %d bytes, %v; one by one: %v", shortEdits(list), changed, len(changed), ok, all)
	}
}

// Promise 61: joined edits are those of both.
func TestJoinedEditsAreThoseOfBoth(t *testing.T) {
	r := rand.New(rand.NewSource(611))
	joined, refused := 0, 0
	for k, c := range promisedEdits(61, 4000) {
		a, _ := divided(c.list, r.Int())
		b := randomEdits(r, c.text, k%4, 30, 2)
		list, ok := impl.JoinEdits(c.text, a, b)
		other, otherOK := impl.JoinEdits(c.text, b, a)
		if ok != otherOK || !slices.Equal(list, other) {
			t.Fatalf("%+v and %+v of %.90q are joined as %+v, %v, and in the other order as %+v, %v", shortEdits(a), shortEdits(b), c.text, shortEdits(list), ok, shortEdits(other), otherOK)
		}
		if !ok {
			refused++
			continue
		}
		if len(list) != len(a)+len(b) || !impl.EditsValid(c.text, list) || !slices.IsSortedFunc(list, func(x, y impl.Edit) int { return x.From - y.From }) {
			t.Fatalf("%+v and %+v of %.90q are joined as %+v", shortEdits(a), shortEdits(b), c.text, shortEdits(list))
		}
		for _, e := range slices.Concat(a, b) {
			if !slices.Contains(list, e) {
				t.Fatalf("%+v and %+v of %.90q are joined as %+v", shortEdits(a), shortEdits(b), c.text, shortEdits(list))
			}
		}
		joined++
	}
	if joined < 2000 || refused < 500 {
		t.Errorf("%d lists are joined, and %d are not", joined, refused)
	}
}

// Promise 62: edits of lines lead to the other text.
func TestEditsOfLinesLeadToTheOtherText(t *testing.T) {
	texts := append(textsUpTo(5, "a \n"), smallTexts()[1093:]...)
	for _, c := range editCases(62, 40) {
		texts = append(texts, c.text, changedText(c.text, c.list))
	}
	for _, a := range texts {
		for _, b := range texts {
			checkLeads(t, a, b)
		}
	}
	long := append(fullTexts(), texts[:20]...)
	for _, a := range long {
		for _, b := range long {
			checkLeads(t, a, b)
		}
	}
}

// checkLeads looks whether the edits of lines lead from a text to another one, and that no line is among them which both have at an end of theirs.
func checkLeads(t *testing.T, a string, b string) {
	t.Helper()
	list := impl.LineEdits(a, b)
	if len(list) > 1 || (len(list) == 0) != (a == b) {
		t.Fatalf("from %.60q to %.60q there are the edits %+v", a, b, shortEdits(list))
	}
	if got, ok := impl.ApplyEdits(a, list); got != b || !ok {
		t.Fatalf("%+v change %.60q to %.60q, %v, and not to %.60q", shortEdits(list), a, got, ok, b)
	}
	for _, e := range list {
		old, changed := wholeLine.FindAllString(a[e.From:e.To], -1), wholeLine.FindAllString(e.Text, -1)
		if len(old) == 0 || len(changed) == 0 {
			continue
		}
		if old[0] == changed[0] || old[len(old)-1] == changed[len(changed)-1] {
			t.Fatalf("%+v of %.60q have a line that stays", shortEdits(list), a)
		}
	}
}

// Promise 101: edits can be divided.
func TestEditsCanBeDivided(t *testing.T) {
	r := rand.New(rand.NewSource(1011))
	for _, c := range promisedEdits(101, 5000) {
		for at := range len(c.list) + 1 {
			some, others := divided(c.list, r.Int())
			for _, parts := range [][2][]impl.Edit{{c.list[:at], c.list[at:]}, {c.list[at:], c.list[:at]}, {some, others}, {others, some}} {
				if list, ok := impl.JoinEdits(c.text, parts[0], parts[1]); !ok || !slices.Equal(list, c.list) {
					t.Fatalf("the parts %+v and %+v of edits of %.90q are joined as %+v, %v", shortEdits(parts[0]), shortEdits(parts[1]), c.text, shortEdits(list), ok)
				}
			}
		}
	}
}

// Promise 102: undone edits can be undone.
func TestUndoneEditsCanBeUndone(t *testing.T) {
	undone := 0
	for _, c := range promisedEdits(102, 6000) {
		undo, ok := impl.UndoEdits(c.text, c.list)
		if !ok {
			continue
		}
		changed, _ := impl.ApplyEdits(c.text, c.list)
		if list, ok := impl.UndoEdits(changed, undo); !ok || !slices.Equal(list, c.list) {
			t.Fatalf("%+v of %.90q are undone by %+v, and these by %+v, %v", shortEdits(c.list), c.text, shortEdits(undo), shortEdits(list), ok)
		}
		undone++
	}
	if undone < 3000 {
		t.Errorf("%d edits are undone", undone)
	}
}
