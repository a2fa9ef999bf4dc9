package tests

import (
	"math"
	"math/rand"
	"slices"
	"strings"
	"testing"

	"loop.example/configformatter/impl"
)

func TestMaxEdits(t *testing.T) {
	if impl.MaxEdits != 20 {
		t.Fatal(impl.MaxEdits)
	}
}

// singleEdits returns so many edits that stand in a text of at least twice as many bytes, each of which replaces one byte.
func singleEdits(n int) []impl.Edit {
	var list []impl.Edit
	for k := range n {
		list = append(list, impl.Edit{From: 2 * k, To: 2*k + 1, Text: "x"})
	}
	return list
}

func TestEditsByHand(t *testing.T) {
	for _, c := range []struct {
		text  string
		list  []change
		valid bool
	}{
		{"hello", nil, true}, {"", nil, true}, {"hello", []change{{0, 1, "J"}, {5, 5, "!"}}, true},
		// The places are in the text, and in order.
		{"hello", []change{{0, 0, "x"}}, true}, {"hello", []change{{0, 5, "x"}}, true}, {"hello", []change{{5, 5, "x"}}, true}, {"hello", []change{{4, 5, "x"}}, true}, {"hello", []change{{2, 2, "x"}}, true},
		{"hello", []change{{-1, 0, "x"}}, false}, {"hello", []change{{-1, -1, "x"}}, false}, {"hello", []change{{-1, 5, "x"}}, false}, {"hello", []change{{math.MinInt, 2, "x"}}, false}, {"hello", []change{{math.MinInt, math.MaxInt, "x"}}, false}, {"hello", []change{{math.MinInt, math.MinInt, "x"}}, false},
		{"hello", []change{{2, 1, "x"}}, false}, {"hello", []change{{1, 0, ""}}, false}, {"hello", []change{{5, 4, "x"}}, false}, {"hello", []change{{2, -1, "x"}}, false}, {"hello", []change{{0, -1, ""}}, false}, {"hello", []change{{3, math.MinInt, "x"}}, false}, {"hello", []change{{5, 0, "x"}}, false},
		{"hello", []change{{5, 6, "x"}}, false}, {"hello", []change{{0, 6, "x"}}, false}, {"hello", []change{{6, 6, "x"}}, false}, {"hello", []change{{6, 6, ""}}, false}, {"hello", []change{{6, 5, "x"}}, false}, {"hello", []change{{0, math.MaxInt, "x"}}, false}, {"hello", []change{{math.MaxInt, math.MaxInt, "x"}}, false},
		// The empty text has only one place.
		{"", []change{{0, 0, "x"}}, true}, {"", []change{{0, 0, ""}}, true}, {"", []change{{0, 1, "x"}}, false}, {"", []change{{1, 1, "x"}}, false}, {"", []change{{-1, 0, "x"}}, false}, {"", []change{{0, 0, "x"}, {0, 0, "y"}}, false},
		// Each edit begins at the end of the one before, or behind it.
		{"hello", []change{{1, 3, "x"}, {3, 4, "y"}}, true}, {"hello", []change{{1, 3, "x"}, {2, 4, "y"}}, false}, {"hello", []change{{1, 3, "x"}, {4, 5, "y"}}, true}, {"hello", []change{{1, 3, "x"}, {1, 3, "x"}}, false}, {"hello", []change{{1, 3, "x"}, {0, 1, "y"}}, false}, {"hello", []change{{1, 3, "x"}, {0, 5, "y"}}, false}, {"hello", []change{{0, 5, "y"}, {1, 3, "x"}}, false}, {"hello", []change{{3, 4, "x"}, {1, 2, "y"}}, false}, {"hello", []change{{1, 3, ""}, {3, 4, ""}}, true}, {"hello", []change{{1, 3, ""}, {2, 4, ""}}, false}, {"hello", []change{{0, 3, "x"}, {0, 4, "y"}}, false}, {"hello", []change{{0, 4, "x"}, {0, 3, "y"}}, false},
		{"hello", []change{{0, 1, "x"}, {1, 2, "y"}, {2, 3, "z"}, {3, 4, ""}, {4, 5, "w"}}, true}, {"hello", []change{{0, 1, "x"}, {1, 2, "y"}, {2, 4, "z"}, {3, 4, ""}, {4, 5, "w"}}, false}, {"hello", []change{{0, 1, "x"}, {4, 5, "y"}, {2, 3, "z"}}, false},
		// One that removes nothing does not begin where another one does, but may begin where another one ends.
		{"hello", []change{{2, 2, "x"}, {2, 3, "y"}}, false}, {"hello", []change{{2, 3, "y"}, {2, 2, "x"}}, false}, {"hello", []change{{2, 2, "x"}, {2, 2, "y"}}, false}, {"hello", []change{{2, 2, "x"}, {2, 2, "x"}}, false}, {"hello", []change{{2, 2, ""}, {2, 2, ""}}, false}, {"hello", []change{{2, 2, ""}, {2, 3, ""}}, false}, {"hello", []change{{0, 0, "x"}, {0, 5, "y"}}, false}, {"hello", []change{{5, 5, "x"}, {5, 5, "y"}}, false},
		{"hello", []change{{1, 2, "x"}, {2, 2, "y"}}, true}, {"hello", []change{{1, 2, ""}, {2, 2, ""}}, true}, {"hello", []change{{2, 2, "y"}, {1, 2, "x"}}, false}, {"hello", []change{{1, 3, "x"}, {2, 2, "y"}}, false}, {"hello", []change{{1, 4, "x"}, {2, 2, "y"}, {4, 4, "z"}}, false}, {"hello", []change{{4, 5, "x"}, {5, 5, "y"}}, true}, {"hello", []change{{2, 2, "x"}, {3, 3, "y"}}, true}, {"hello", []change{{2, 2, "x"}, {3, 4, "y"}}, true}, {"hello", []change{{2, 2, "x"}, {1, 1, "y"}}, false},
		{"hello", []change{{1, 2, "x"}, {2, 2, "y"}, {2, 3, "z"}}, false}, {"hello", []change{{1, 2, "x"}, {2, 2, "y"}, {2, 2, "z"}}, false}, {"hello", []change{{1, 2, "x"}, {2, 2, "y"}, {3, 3, "z"}}, true}, {"hello", []change{{2, 2, "x"}, {3, 3, "y"}, {3, 4, "z"}}, false}, {"hello", []change{{2, 2, "x"}, {3, 3, "y"}, {2, 2, "z"}}, false},
		// The text of an edit is valid.
		{"hello", []change{{1, 2, "a b\n~"}}, true}, {"hello", []change{{1, 2, "\t"}}, false}, {"hello", []change{{1, 2, "a\r\n"}}, false}, {"hello", []change{{1, 2, "\x7f"}}, false}, {"hello", []change{{1, 2, "\xc3\xa4"}}, false}, {"hello", []change{{1, 2, "x"}, {3, 4, "\x01"}}, false}, {"hello", []change{{1, 2, "\x01"}, {3, 4, "x"}}, false},
		{"a\nb\n", []change{{1, 2, ""}, {4, 4, "\n"}}, true}, {"a\tb", nil, false}, {"a\tb", []change{{1, 2, ""}}, false},
	} {
		list := editsOf(c.list)
		if got := impl.EditsValid(c.text, list); got != c.valid {
			t.Errorf("%+v are edits of %q: %v", list, c.text, got)
		}
		if !c.valid {
			checkNoEdits(t, c.text, list)
		} else if !checkEdits(t, c.text, list) {
			t.Errorf("the model is wrong: %+v are edits of %q", list, c.text)
		}
	}
}

func TestChangedTextsByHand(t *testing.T) {
	for _, c := range []struct {
		text    string
		list    []change
		changed string
	}{
		{"hello", nil, "hello"}, {"", nil, ""}, {"hello", []change{{0, 1, "J"}, {5, 5, "!"}}, "Jello!"}, {"", []change{{0, 0, "x\n"}}, "x\n"}, {"", []change{{0, 0, ""}}, ""},
		// Edits that put in nothing, that remove nothing, and that do neither.
		{"hello", []change{{1, 3, ""}}, "hlo"}, {"hello", []change{{0, 5, ""}}, ""}, {"hello", []change{{0, 1, ""}, {4, 5, ""}}, "ell"}, {"hello", []change{{2, 2, "xy"}}, "hexyllo"}, {"hello", []change{{0, 0, "x"}, {1, 1, "y"}, {5, 5, "z"}}, "xhyelloz"}, {"hello", []change{{2, 2, ""}}, "hello"}, {"hello", []change{{0, 0, ""}, {5, 5, ""}}, "hello"}, {"hello", []change{{1, 3, "el"}}, "hello"},
		// Edits that touch.
		{"hello", []change{{1, 2, "x"}, {2, 2, "y"}, {3, 4, "z"}}, "hxylzo"}, {"hello", []change{{0, 1, "o"}, {1, 2, "l"}, {2, 4, ""}, {4, 5, "h"}}, "olh"}, {"hello", []change{{0, 2, ""}, {2, 5, ""}}, ""}, {"hello", []change{{1, 2, ""}, {2, 2, "x"}}, "hxllo"},
		// All places are those of the text before.
		{"abcdef", []change{{0, 1, "12345"}, {2, 3, ""}, {3, 3, "-"}, {5, 6, "fgh"}}, "12345b-defgh"}, {"aaaa", []change{{0, 1, "aa"}, {3, 4, "b"}}, "aaaab"}, {"a\nb\nc\n", []change{{0, 2, ""}, {4, 4, "x\n"}, {6, 6, "y"}}, "b\nx\nc\ny"},
		// What is put in is not changed again.
		{"ab", []change{{0, 1, "bb"}, {1, 2, "c"}}, "bbc"}, {"ab", []change{{0, 0, "ab"}, {1, 2, ""}}, "aba"},
	} {
		list := editsOf(c.list)
		if got, ok := impl.ApplyEdits(c.text, list); !ok || got != c.changed {
			t.Errorf("%+v change %q to %q, %v, and not to %q", list, c.text, got, ok, c.changed)
		}
		if !checkEdits(t, c.text, list) {
			t.Errorf("%+v are no edits of %q", list, c.text)
		}
	}
}

func TestUndoneEditsByHand(t *testing.T) {
	for _, c := range []struct {
		text string
		list []change
		undo []change
		ok   bool
	}{
		{"hello", nil, nil, true}, {"", nil, nil, true}, {"hello", []change{{0, 1, "J"}, {5, 5, "!"}}, []change{{0, 1, "h"}, {5, 6, ""}}, true}, {"", []change{{0, 0, "xy"}}, []change{{0, 2, ""}}, true}, {"", []change{{0, 0, ""}}, []change{{0, 0, ""}}, true},
		// What removes nothing is removed, and what puts in nothing is put in.
		{"hello", []change{{2, 2, "xy"}}, []change{{2, 4, ""}}, true}, {"hello", []change{{1, 3, ""}}, []change{{1, 1, "el"}}, true}, {"hello", []change{{0, 5, ""}}, []change{{0, 0, "hello"}}, true}, {"hello", []change{{2, 2, ""}}, []change{{2, 2, ""}}, true}, {"hello", []change{{1, 3, "el"}}, []change{{1, 3, "el"}}, true},
		// The places are those of the changed text.
		{"abcdef", []change{{0, 1, "12345"}, {2, 3, ""}, {4, 4, "-"}, {5, 6, "fgh"}}, []change{{0, 5, "a"}, {6, 6, "c"}, {7, 8, ""}, {9, 12, "f"}}, true}, {"abcdef", []change{{0, 3, ""}, {4, 6, "x"}}, []change{{0, 0, "abc"}, {1, 2, "ef"}}, true}, {"a\nb\n", []change{{1, 2, ""}, {4, 4, "c\n"}}, []change{{1, 1, "\n"}, {3, 5, ""}}, true},
		// Neighbours that put something in stand apart in the changed text.
		{"hello", []change{{1, 2, "x"}, {2, 2, "y"}}, []change{{1, 2, "e"}, {2, 3, ""}}, true}, {"hello", []change{{1, 2, "x"}, {2, 3, "y"}}, []change{{1, 2, "e"}, {2, 3, "l"}}, true}, {"hello", []change{{1, 2, "x"}, {2, 3, ""}}, []change{{1, 2, "e"}, {2, 2, "l"}}, true}, {"hello", []change{{1, 2, "xyz"}, {2, 2, ""}}, []change{{1, 4, "e"}, {4, 4, ""}}, true},
		// Those of which the first one puts in nothing would begin at the same place.
		{"hello", []change{{1, 2, ""}, {2, 2, "x"}}, nil, false}, {"hello", []change{{1, 2, ""}, {2, 3, "x"}}, nil, false}, {"hello", []change{{1, 2, ""}, {2, 3, ""}}, nil, false}, {"hello", []change{{1, 2, ""}, {2, 2, ""}}, nil, false}, {"hello", []change{{0, 2, ""}, {2, 5, ""}}, nil, false}, {"hello", []change{{0, 1, "x"}, {1, 2, ""}, {2, 3, "y"}}, nil, false}, {"hello", []change{{0, 1, ""}, {3, 4, ""}, {4, 5, "x"}}, nil, false},
		// Unless something stands between them.
		{"hello", []change{{1, 2, ""}, {3, 3, "x"}}, []change{{1, 1, "e"}, {2, 3, ""}}, true}, {"hello", []change{{1, 2, ""}, {3, 4, ""}}, []change{{1, 1, "e"}, {2, 2, "l"}}, true}, {"hello", []change{{1, 1, ""}, {2, 2, ""}}, []change{{1, 1, ""}, {2, 2, ""}}, true},
		// What is no edit is not undone.
		{"hello", []change{{5, 6, ""}}, nil, false}, {"hello", []change{{2, 2, "x"}, {2, 3, "y"}}, nil, false}, {"a\tb", nil, nil, false},
	} {
		list, want := editsOf(c.list), editsOf(c.undo)
		if got, ok := impl.UndoEdits(c.text, list); !slices.Equal(got, want) || ok != c.ok {
			t.Errorf("%+v of %q are undone by %+v, %v, and not by %+v, %v", list, c.text, got, ok, want, c.ok)
		}
		checkEdits(t, c.text, list)
	}
}

func TestJoinedEditsByHand(t *testing.T) {
	for _, c := range []struct {
		text   string
		a, b   []change
		joined []change
		ok     bool
	}{
		{"hello", nil, nil, nil, true}, {"", nil, nil, nil, true}, {"hello", []change{{5, 5, "!"}}, []change{{0, 1, "J"}}, []change{{0, 1, "J"}, {5, 5, "!"}}, true},
		// An empty list.
		{"hello", []change{{1, 2, "x"}, {2, 2, "y"}}, nil, []change{{1, 2, "x"}, {2, 2, "y"}}, true}, {"", []change{{0, 0, "x"}}, nil, []change{{0, 0, "x"}}, true}, {"hello", []change{{5, 6, "x"}}, nil, nil, false},
		// Edits of both in turn.
		{"hello", []change{{0, 1, "x"}, {2, 3, "y"}, {4, 5, "z"}}, []change{{1, 2, "1"}, {3, 4, "2"}}, []change{{0, 1, "x"}, {1, 2, "1"}, {2, 3, "y"}, {3, 4, "2"}, {4, 5, "z"}}, true}, {"hello", []change{{0, 1, "x"}, {4, 5, "z"}}, []change{{2, 2, "1"}, {3, 3, "2"}}, []change{{0, 1, "x"}, {2, 2, "1"}, {3, 3, "2"}, {4, 5, "z"}}, true},
		// Edits that touch, overlap, and begin at the same place.
		{"hello", []change{{1, 3, "x"}}, []change{{3, 4, "y"}}, []change{{1, 3, "x"}, {3, 4, "y"}}, true}, {"hello", []change{{1, 3, "x"}}, []change{{3, 3, "y"}}, []change{{1, 3, "x"}, {3, 3, "y"}}, true}, {"hello", []change{{1, 3, "x"}}, []change{{2, 4, "y"}}, nil, false}, {"hello", []change{{1, 4, "x"}}, []change{{2, 3, "y"}}, nil, false}, {"hello", []change{{1, 4, "x"}}, []change{{2, 2, "y"}}, nil, false}, {"hello", []change{{1, 4, "x"}}, []change{{3, 5, "y"}}, nil, false},
		{"hello", []change{{2, 2, "x"}}, []change{{2, 2, "y"}}, nil, false}, {"hello", []change{{2, 2, "x"}}, []change{{2, 3, "y"}}, nil, false}, {"hello", []change{{2, 3, "x"}}, []change{{2, 3, "y"}}, nil, false}, {"hello", []change{{2, 3, "x"}}, []change{{2, 4, "y"}}, nil, false}, {"hello", []change{{2, 2, ""}}, []change{{2, 2, ""}}, nil, false}, {"hello", []change{{0, 1, "x"}, {2, 3, "y"}}, []change{{0, 1, "x"}, {2, 3, "y"}}, nil, false}, {"hello", []change{{0, 5, "x"}}, []change{{0, 0, "y"}}, nil, false},
		{"hello", []change{{1, 2, "x"}, {3, 4, "z"}}, []change{{2, 2, "y"}}, []change{{1, 2, "x"}, {2, 2, "y"}, {3, 4, "z"}}, true}, {"hello", []change{{1, 2, "x"}, {3, 4, "z"}}, []change{{3, 3, "y"}}, nil, false}, {"hello", []change{{1, 2, "x"}, {3, 4, "z"}}, []change{{4, 4, "y"}}, []change{{1, 2, "x"}, {3, 4, "z"}, {4, 4, "y"}}, true}, {"hello", []change{{1, 2, "x"}, {3, 4, "z"}}, []change{{2, 4, "y"}}, nil, false},
		// Both lists alone are valid, also where only their order is wrong, or the other list would part them.
		{"hello", []change{{3, 4, "x"}, {1, 2, "y"}}, nil, nil, false}, {"hello", []change{{3, 4, "x"}, {1, 2, "y"}}, []change{{4, 5, "z"}}, nil, false}, {"hello", []change{{2, 2, "x"}, {2, 3, "y"}}, []change{{4, 5, "z"}}, nil, false}, {"hello", []change{{-1, 0, "x"}}, []change{{4, 5, "z"}}, nil, false}, {"hello", []change{{0, 1, "\x01"}}, []change{{4, 5, "z"}}, nil, false}, {"a\tb", nil, nil, nil, false}, {"a\tb", []change{{0, 1, "x"}}, []change{{2, 3, "z"}}, nil, false},
	} {
		a, b, want := editsOf(c.a), editsOf(c.b), editsOf(c.joined)
		for _, lists := range [][2][]impl.Edit{{a, b}, {b, a}} {
			if got, ok := impl.JoinEdits(c.text, lists[0], lists[1]); !slices.Equal(got, want) || ok != c.ok {
				t.Errorf("%+v and %+v of %q are joined as %+v, %v, and not as %+v, %v", lists[0], lists[1], c.text, got, ok, want, c.ok)
			}
		}
		if checkJoined(t, c.text, a, b) != c.ok {
			t.Errorf("the model is wrong: %+v and %+v of %q are joined, or not", a, b, c.text)
		}
	}
}

// Every edit alone, with all places around those of the text.
func TestPlacesOfEdits(t *testing.T) {
	for _, s := range []string{"", "a", "\n", "ab", "hello", "a\nb\nc\n"} {
		far := []int{math.MinInt, math.MinInt + 1, -1000, 1000, math.MaxInt - 1, math.MaxInt}
		places := append([]int{-2, -1, len(s) + 1, len(s) + 2}, far...)
		for place := range len(s) + 1 {
			places = append(places, place)
		}
		for _, from := range places {
			for _, to := range places {
				for _, text := range []string{"", "x", "xy\n"} {
					list := []impl.Edit{{From: from, To: to, Text: text}}
					valid := from >= 0 && from <= to && to <= len(s)
					if checkEdits(t, s, list) != valid {
						t.Errorf("%+v are edits of %q: %v", list, s, !valid)
					}
					if !valid {
						checkNoEdits(t, s, list)
					}
				}
			}
		}
	}
}

// All lists of two edits of some texts, and of three edits of short ones.
func TestSmallEdits(t *testing.T) {
	valid, joined, undone := 0, 0, 0
	for _, s := range []string{"", "a", "ab", "abc"} {
		for _, first := range allEdits(-1, len(s)+1, "", "x", "yz") {
			for _, second := range allEdits(-1, len(s)+1, "", "x", "yz") {
				list := []impl.Edit{first, second}
				if checkEdits(t, s, list) {
					valid++
				}
				if checkJoined(t, s, list[:1], list[1:]) {
					joined++
				}
				if _, ok := impl.UndoEdits(s, list); ok {
					undone++
				}
			}
		}
	}
	if valid < 300 || joined < 600 || undone < 200 || undone == valid {
		t.Errorf("%d lists are valid, %d can be joined, and %d undone", valid, joined, undone)
	}
	for _, s := range []string{"", "a", "ab", "abc"} {
		some := allEdits(0, len(s), "", "x")
		for _, first := range some {
			for _, second := range some {
				for _, third := range some {
					list := []impl.Edit{first, second, third}
					checkEdits(t, s, list)
					checkJoined(t, s, list[:1], list[1:])
					checkJoined(t, s, list[:2], list[2:])
				}
			}
		}
	}
}

// An edit before, at and behind both places of another one, with all sizes, in both orders.
func TestEditsNextToEachOther(t *testing.T) {
	const s = "0123456789"
	for size := range 4 {
		for from := 2; from <= 6; from++ {
			for more := range 4 {
				for other := 0; other+more <= len(s); other++ {
					first, second := impl.Edit{From: from, To: from + size, Text: "x"}, impl.Edit{From: other, To: other + more, Text: "y"}
					behind := other >= first.To && other != from
					if checkEdits(t, s, []impl.Edit{first, second}) != behind {
						t.Errorf("%+v stands behind %+v: %v", second, first, !behind)
					}
					before := from >= second.To && from != other
					if checkEdits(t, s, []impl.Edit{second, first}) != before {
						t.Errorf("%+v stands before %+v: %v", second, first, !before)
					}
					if checkJoined(t, s, []impl.Edit{first}, []impl.Edit{second}) != (behind || before) {
						t.Errorf("%+v and %+v are joined: %v", first, second, !behind && !before)
					}
				}
			}
		}
	}
}

// An edit that removes nothing at every place of other edits, wherever it stands in the list.
func TestEditsThatRemoveNothing(t *testing.T) {
	const s = "0123456789abcdef"
	list := editsOf([]change{{0, 2, "x"}, {2, 4, ""}, {5, 5, "y"}, {6, 9, "zz"}, {9, 10, ""}, {12, 12, ""}, {13, 15, "w"}})
	for place := range len(s) + 1 {
		for _, text := range []string{"", "v"} {
			more := impl.Edit{From: place, To: place, Text: text}
			apart := !slices.ContainsFunc(list, func(e impl.Edit) bool { return place == e.From || place > e.From && place < e.To })
			found := 0
			for at := range len(list) + 1 {
				if checkEdits(t, s, slices.Insert(slices.Clone(list), at, more)) {
					found++
				}
			}
			if (found == 1) != apart || found > 1 {
				t.Errorf("an edit that removes nothing at %d is valid at %d places of the list", place, found)
			}
			if checkJoined(t, s, list, []impl.Edit{more}) != apart {
				t.Errorf("an edit that removes nothing at %d is joined: %v", place, !apart)
			}
		}
	}
}

// Every byte in the text of an edit, and in the text that is changed.
func TestBytesOfEdits(t *testing.T) {
	for b := range 256 {
		letter := string([]byte{byte(b)})
		valid := b == 10 || b >= 32 && b <= 126
		for _, text := range []string{letter, letter + "a", "a" + letter, "a" + letter + "b", letter + letter} {
			for _, list := range [][]impl.Edit{{{From: 1, To: 2, Text: text}}, {{From: 0, To: 0, Text: text}, {From: 3, To: 4}}, {{From: 0, To: 1}, {From: 4, To: 4, Text: text}}, {{Text: "x"}, {From: 1, To: 3, Text: text}, {From: 3, To: 4}}} {
				if checkEdits(t, "a\nbc", list) != valid {
					t.Errorf("%+v are edits: %v", list, !valid)
				}
				checkJoined(t, "a\nbc", list[:1], list[1:])
			}
			for _, list := range [][]impl.Edit{nil, {}, {{Text: "x"}}, {{From: 0, To: len(text)}}, {{From: len(text), To: len(text), Text: "x"}}} {
				if checkEdits(t, text, list) != valid {
					t.Errorf("%+v are edits of %q: %v", list, text, !valid)
				}
				checkJoined(t, text, list, nil)
			}
			if (len(impl.LineEdits(text, "other")) == 1) != valid || (len(impl.LineEdits("other", text)) == 1) != valid {
				t.Errorf("%q is changed to another text, or not", text)
			}
		}
	}
}

// Texts that are not valid have no edits, and stand in none.
func TestEditsOfTextsThatAreNone(t *testing.T) {
	for _, s := range invalidTexts() {
		for _, list := range [][]impl.Edit{nil, {}, {{}}, {{Text: "x"}}, {{From: 0, To: len(s)}}, {{From: len(s), To: len(s), Text: "x"}}, {{From: 0, To: 1}, {From: 1, To: len(s), Text: "a"}}} {
			checkNoEdits(t, s, list)
		}
		for _, list := range [][]impl.Edit{{{Text: s}}, {{From: 1, To: 2, Text: s}}, {{From: 0, To: 5, Text: s}}, {{Text: "x"}, {From: 5, To: 5, Text: s}}, {{Text: s}, {From: 5, To: 5, Text: "x"}}} {
			checkNoEdits(t, "hello", list)
		}
	}
}

// Up to MaxEdits edits are valid, and none beyond.
func TestNumbersOfEdits(t *testing.T) {
	s := strings.Repeat("ab", 2*impl.MaxEdits)
	for n := range 2 * impl.MaxEdits {
		for _, list := range [][]impl.Edit{singleEdits(n), slices.Clone(singleEdits(2 * impl.MaxEdits)[2*impl.MaxEdits-n:])} {
			if checkEdits(t, s, list) != (n <= impl.MaxEdits) {
				t.Errorf("%d edits are valid: %v", n, n > impl.MaxEdits)
			}
			if n > impl.MaxEdits {
				checkNoEdits(t, s, list)
			}
			for k := range n + 1 {
				for _, parts := range [][2][]impl.Edit{{list[:k], list[k:]}, {slices.Concat(list[:k/2], list[n-k+k/2:]), list[k/2 : n-k+k/2]}} {
					if checkJoined(t, s, parts[0], parts[1]) != (n <= impl.MaxEdits) {
						t.Errorf("%d and %d edits are joined: %v", len(parts[0]), len(parts[1]), n > impl.MaxEdits)
					}
				}
			}
		}
	}
	for _, n := range []int{1000, 1000000} {
		checkNoEditsAtAll(t, s, slices.Repeat([]impl.Edit{{}}, n))
	}
	long := strings.Repeat("a", impl.MaxText)
	checkNoEditsAtAll(t, long, singleEdits(impl.MaxText/2))
}

// checkNoEditsAtAll looks that very many edits are refused, without the model.
func checkNoEditsAtAll(t *testing.T, s string, list []impl.Edit) {
	t.Helper()
	_, applied := impl.ApplyEdits(s, list)
	_, joined := impl.JoinEdits(s, list, list)
	_, undone := impl.UndoEdits(s, list)
	if impl.EditsValid(s, list) || applied || joined || undone {
		t.Fatalf("%d edits are valid", len(list))
	}
}

// checkLength looks whether a text can be changed by edits that are valid, and back.
func checkLength(t *testing.T, s string, list []impl.Edit, fits bool) {
	t.Helper()
	if !checkEdits(t, s, list) {
		t.Fatalf("%+v are no edits of a text of %d bytes", shortEdits(list), len(s))
	}
	if changed, ok := impl.ApplyEdits(s, list); ok != fits || !ok && changed != "" {
		t.Fatalf("%+v change a text of %d bytes to one of %d: %v", shortEdits(list), len(s), len(changed), ok)
	}
	if undo, ok := impl.UndoEdits(s, list); ok != fits || !ok && len(undo) > 0 {
		t.Fatalf("%+v of a text of %d bytes are undone: %v", shortEdits(list), len(s), ok)
	}
}

// A changed text has at most MaxText bytes, whatever it has between the edits.
func TestLengthsOfChangedTexts(t *testing.T) {
	for _, n := range []int{0, 1, 2, 100, impl.MaxText / 2, impl.MaxText - 1, impl.MaxText} {
		s := strings.Repeat("a\nb ", impl.MaxText/4)[:n]
		for _, more := range []int{-1, 0, 1, 2} {
			length := impl.MaxText - n + more
			if length < 0 || length > impl.MaxText {
				continue
			}
			text := strings.Repeat("x", length)
			for _, place := range []int{0, n / 2, n} {
				checkLength(t, s, []impl.Edit{{From: place, To: place, Text: text}}, more <= 0)
			}
			if n > 1 {
				checkLength(t, s, []impl.Edit{{Text: text[:length/2]}, {From: n, To: n, Text: text[length/2:]}}, more <= 0)
				checkLength(t, s, []impl.Edit{{Text: text}, {From: n - 1, To: n}}, more <= 1)
				checkLength(t, s, []impl.Edit{{From: 0, To: 1}, {From: n, To: n, Text: text}}, more <= 1)
				checkLength(t, s, []impl.Edit{{Text: text}, {From: n - 1, To: n, Text: "yz"}}, more <= -1)
			}
		}
	}
	full := strings.Repeat("a", impl.MaxText)
	checkLength(t, full, nil, true)
	checkLength(t, full, []impl.Edit{{From: 0, To: impl.MaxText, Text: strings.Repeat("b", impl.MaxText)}}, true)
	checkLength(t, full, []impl.Edit{{From: 0, To: impl.MaxText}}, true)
	checkLength(t, full, []impl.Edit{{Text: full}, {From: 1, To: impl.MaxText}}, false)
	checkLength(t, full, []impl.Edit{{Text: full[1:]}, {From: 1, To: impl.MaxText}}, true)
	checkLength(t, full, []impl.Edit{{From: 0, To: impl.MaxText - 1}, {From: impl.MaxText, To: impl.MaxText, Text: full[1:]}}, true)
	checkLength(t, full, []impl.Edit{{From: 0, To: impl.MaxText - 1}, {From: impl.MaxText, To: impl.MaxText, Text: full}}, false)
	// MaxEdits edits with MaxText bytes each.
	var list []impl.Edit
	for k := range impl.MaxEdits {
		list = append(list, impl.Edit{From: k, To: k + 1, Text: full})
	}
	checkLength(t, full, list, false)
	checkLength(t, full[:impl.MaxEdits], list, false)
}

// Joined edits are valid also where the text that they lead to would be too long.
func TestLongEditsAreJoined(t *testing.T) {
	full := strings.Repeat("a", impl.MaxText)
	a, b := []impl.Edit{{Text: full}}, []impl.Edit{{From: 1, To: 1, Text: full}}
	if !checkJoined(t, full, a, b) || !checkJoined(t, "ab", a, b) {
		t.Error("long edits are not joined")
	}
}

// Edits in all numbers, and such that are nearly edits.
func TestManyEdits(t *testing.T) {
	undone, others, spoiled := 0, 0, 0
	for _, c := range editCases(160, 3000) {
		if !checkEdits(t, c.text, c.list) {
			t.Fatalf("%+v are no edits of %q", c.list, c.text)
		}
		if _, ok := impl.UndoEdits(c.text, c.list); ok {
			undone++
		} else {
			others++
		}
	}
	for _, c := range editCases(161, 250) {
		for _, list := range spoiledEdits(c.list) {
			if !checkEdits(t, c.text, list) {
				spoiled++
			}
		}
	}
	if undone < 1000 || others < 300 || spoiled < 10000 {
		t.Errorf("%d edits are undone, %d are not, and %d are none", undone, others, spoiled)
	}
}

// Lists that are joined, of which many overlap or have edits at the same place.
func TestManyEditsAreJoined(t *testing.T) {
	r := rand.New(rand.NewSource(162))
	joined, refused := 0, 0
	for k, c := range editCases(163, 3000) {
		a, b := divided(c.list, r.Int())
		if !checkJoined(t, c.text, a, b) {
			t.Fatalf("%+v and %+v of %q are not joined", a, b, c.text)
		}
		if checkJoined(t, c.text, a, randomEdits(r, c.text, 1+k%3, 40, 2)) {
			joined++
		} else {
			refused++
		}
		for _, other := range [][]impl.Edit{c.list, {{From: -1}}, {{From: len(c.text), To: len(c.text) + 1}}, {{Text: "\x01"}}} {
			checkJoined(t, c.text, a, other)
		}
	}
	for _, c := range editCases(164, 200) {
		a, b := divided(c.list, r.Int())
		for _, list := range spoiledEdits(a) {
			checkJoined(t, c.text, list, b)
		}
	}
	if joined < 500 || refused < 500 {
		t.Errorf("%d lists are joined, and %d are not", joined, refused)
	}
}

// spoilRoom overwrites a result with everything behind it.
func spoilRoom(list []impl.Edit) {
	for k := range list[:cap(list)] {
		list[:cap(list)][k] = impl.Edit{From: 1000, To: -1000, Text: "other"}
	}
}

// What stands before edits or behind them does not count, and nothing is written there; results are new.
func TestEditsStay(t *testing.T) {
	around := impl.Edit{From: 7, To: 3, Text: "\x01"}
	for k, c := range editCases(165, 1500) {
		a, b := divided(c.list, k)
		room := slices.Concat([]impl.Edit{around}, a, []impl.Edit{around, around}, b, slices.Repeat([]impl.Edit{around}, len(a)+1), c.list, []impl.Edit{around})
		before := slices.Clone(room)
		first, second := room[1:1+len(a)], room[3+len(a):3+len(a)+len(b)]
		list := room[len(room)-1-len(c.list) : len(room)-1]
		joined, _ := impl.JoinEdits(c.text, first, second)
		alone, _ := impl.JoinEdits(c.text, list, nil)
		behind, _ := impl.JoinEdits(c.text, nil, list)
		undo, _ := impl.UndoEdits(c.text, list)
		changed, _ := impl.ApplyEdits(c.text, list)
		wantUndo, _ := expectedUndone(c.text, c.list)
		results := [][]impl.Edit{joined, alone, behind, undo, impl.LineEdits(c.text, changed)}
		wanted := [][]impl.Edit{c.list, c.list, c.list, wantUndo, expectedLineEdits(c.text, changed)}
		if !slices.Equal(room, before) {
			t.Fatalf("%+v became %+v", before, room)
		}
		for n, result := range results {
			if !slices.Equal(result, wanted[n]) {
				t.Fatalf("the result %d of %+v for %q is %+v and not %+v", n, c.list, c.text, result, wanted[n])
			}
			spoilRoom(result)
			if !slices.Equal(room, before) {
				t.Fatalf("a change of a result changes %+v to %+v", before, room)
			}
			for m, other := range results[n+1:] {
				if !slices.Equal(other, wanted[n+1+m]) {
					t.Fatalf("a change of a result changes another one to %+v", other)
				}
			}
		}
		again, _ := impl.JoinEdits(c.text, first, second)
		spoilRoom(room)
		if !slices.Equal(again, c.list) || !slices.Equal(impl.LineEdits(c.text, changed), wanted[4]) {
			t.Fatalf("a change of the edits changes the result %+v", again)
		}
	}
}
