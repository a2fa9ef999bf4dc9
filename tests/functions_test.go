package tests

import (
	"math/rand"
	"slices"
	"strings"
	"testing"

	"loop.example/configformatter/impl"
)

func TestFunctionsByHand(t *testing.T) {
	third, half, two := number("-1/3"), number("0.5"), number("2")
	cases := []struct {
		name string
		args []any
		want any
	}{
		{"length", []any{""}, number("0")}, {"length", []any{"a\n\"\\ "}, number("5")}, {"length", []any{[]any{}}, number("0")}, {"length", []any{[]any{[]any{two, two}, "abc"}}, number("2")},
		{"length", []any{two}, nil}, {"length", []any{true}, nil}, {"length", nil, nil}, {"length", []any{"a", "b"}, nil},
		{"upper", []any{"aZ9 _\n"}, "AZ9 _\n"}, {"lower", []any{"aZ9 _\n"}, "az9 _\n"}, {"upper", []any{"@[`{"}, "@[`{"}, {"lower", []any{"@[`{"}, "@[`{"}, {"upper", []any{""}, ""},
		{"upper", []any{[]any{"a"}}, nil}, {"lower", []any{false}, nil}, {"upper", []any{two}, nil}, {"lower", []any{"A", "B"}, nil}, {"upper", nil, nil},
		{"min", []any{two}, two}, {"max", []any{two}, two}, {"min", []any{half, third, two}, third}, {"max", []any{third, two, half}, two}, {"min", []any{two, two}, two},
		{"min", nil, nil}, {"max", nil, nil}, {"min", []any{two, "1"}, nil}, {"max", []any{true, two}, nil}, {"min", []any{[]any{two}}, nil}, {"max", []any{two, []any{}}, nil},
		{"first", []any{[]any{third, two}}, third}, {"first", []any{[]any{[]any{}}}, []any{}}, {"first", []any{[]any{[]any{"a"}, two}}, []any{"a"}},
		{"first", []any{[]any{}}, nil}, {"first", []any{"abc"}, nil}, {"first", []any{[]any{two}, []any{two}}, nil}, {"first", nil, nil},
		{"reverse", []any{[]any{}}, []any{}}, {"reverse", []any{[]any{third, "a", []any{two, true}}}, []any{[]any{two, true}, "a", third}},
		{"reverse", []any{"abc"}, nil}, {"reverse", []any{[]any{two}, two}, nil}, {"reverse", nil, nil},
		{"contains", []any{[]any{two, "a"}, "a"}, true}, {"contains", []any{[]any{two, "a"}, "A"}, false}, {"contains", []any{[]any{"2"}, two}, false}, {"contains", []any{[]any{"true"}, true}, false}, {"contains", []any{[]any{}, []any{}}, false},
		{"contains", []any{[]any{[]any{two}}, []any{two}}, true}, {"contains", []any{[]any{[]any{two}}, two}, false}, {"contains", []any{[]any{two}, []any{two}}, false},
		{"contains", []any{"abc", "a"}, nil}, {"contains", []any{[]any{two}}, nil}, {"contains", []any{two, []any{two}}, nil}, {"contains", []any{[]any{two}, two, two}, nil}, {"contains", nil, nil},
		{"join", []any{[]any{"a", "", "b"}, ", "}, "a, , b"}, {"join", []any{[]any{"a", "b"}, ""}, "ab"}, {"join", []any{[]any{"a"}, ", "}, "a"}, {"join", []any{[]any{}, ", "}, ""}, {"join", []any{[]any{"", ""}, "\n"}, "\n"},
		{"join", []any{[]any{"a", two}, ", "}, nil}, {"join", []any{[]any{[]any{"a"}}, ", "}, nil}, {"join", []any{[]any{}, two}, nil}, {"join", []any{[]any{"a"}, []any{"b"}}, nil}, {"join", []any{[]any{"a"}}, nil}, {"join", []any{"a", "b"}, nil}, {"join", []any{", ", []any{"a"}}, nil}, {"join", nil, nil},
		{"sum", []any{two, two}, nil}, {"", []any{"a"}, nil}, {"Length", []any{"a"}, nil}, {"upper ", []any{"a"}, nil},
	}
	for _, c := range cases {
		var list [][]impl.Cell
		for _, v := range c.args {
			list = append(list, cellsOf(v))
		}
		checkCall(t, c.name, list...)
		got, ok := impl.CallFunction(c.name, list)
		if c.want == nil {
			refused(t, c.name, list...)
		} else if !ok || !slices.Equal(got, cellsOf(c.want)) {
			t.Errorf("%s of %v is %v, %v and not %v", c.name, c.args, got, ok, c.want)
		}
	}
}

// valuesToCall returns values of every kind, with every kind as a part.
func valuesToCall() [][]impl.Cell {
	empty, word, third := tree(impl.CellList, ""), leaf(impl.CellText, "aB"), leaf(impl.CellNumber, "-1/3")
	truth, two := leaf(impl.CellTruth, "true"), leaf(impl.CellNumber, "2")
	return [][]impl.Cell{
		third, word, truth, empty, two, leaf(impl.CellText, ""), leaf(impl.CellTruth, "false"),
		tree(impl.CellList, "", word), tree(impl.CellList, "", third), tree(impl.CellList, "", truth), tree(impl.CellList, "", empty), tree(impl.CellList, "", word, word), tree(impl.CellList, "", two, third),
		tree(impl.CellList, "", tree(impl.CellList, "", word)), tree(impl.CellList, "", word, two, truth, empty),
	}
}

func TestFunctionsTakeTheirValues(t *testing.T) {
	values := valuesToCall()
	for _, name := range append(functionNames(), "", "f", "Max") {
		results := 0
		count := func(list ...[]impl.Cell) {
			if checkCall(t, name, list...) {
				results++
			}
		}
		count()
		for _, a := range values {
			count(a)
			for _, b := range values {
				count(a, b)
				for _, c := range values[:9] {
					count(a, b, c)
				}
			}
		}
		// A value of every other kind in every place of many numbers, and many values of one kind.
		for _, v := range values[:10] {
			for _, n := range []int{4, impl.MaxParts, impl.MaxParts + 1, impl.MaxCells + 1, 500} {
				count(slices.Repeat([][]impl.Cell{v}, n)...)
			}
			for at := range impl.MaxParts + 1 {
				list := slices.Repeat(values[4:5], impl.MaxParts+1)
				list[at] = v
				count(list...)
			}
		}
		if (results > 0) != slices.Contains(functionNames(), name) {
			t.Errorf("%q has %d results", name, results)
		}
	}
}

func TestOtherNamesAreNoFunctions(t *testing.T) {
	others := []string{"", " ", ".", "f", "len", "count", "size", "sum", "last", "sort", "split", "concat", "minimum", "true", "false", "if", "server.port", "a.length", "length.a", "length()", "\"length\"", "upperlower", "min max", "min,max", "not", "!", "+", strings.Repeat("length", 5000)}
	others = append(others, allBytes()...)
	for _, name := range functionNames() {
		others = append(others, strings.ToUpper(name), strings.ToUpper(name[:1])+name[1:], name+"s", name+" ", " "+name, name+"\x00", name+".", name+name, name+"\n")
		for at := range name {
			others = append(others, name[:at]+name[at+1:], name[:at]+name[at:at+1]+name[at:], name[:at]+strings.ToUpper(name[at:at+1])+name[at+1:], name[:at]+string(name[at]^1)+name[at+1:], name[:at])
		}
	}
	word, two, list := leaf(impl.CellText, "a"), leaf(impl.CellNumber, "2"), tree(impl.CellList, "", leaf(impl.CellText, "a"))
	for _, name := range others {
		for _, args := range [][][]impl.Cell{nil, {word}, {two}, {two, two}, {list}, {list, word}, {leaf(impl.CellTruth, "true")}} {
			refused(t, name, args...)
		}
	}
	for _, name := range candidateWords() {
		checkCall(t, name, word)
		checkCall(t, name, list, word)
	}
}

// textsToChange returns texts of no byte up to MaxWord bytes, with every byte that a text may have.
func textsToChange() []string {
	list := []string{"", "az", "AZ", "aZbY", "@A[", "`a{", "@`Zz[{", "a\nB", "0a1B", "\"aB\"\\n", "\\N\\n", " aB ", "Ab~", "true", "[a, B]"}
	for b := byte(' '); b <= '~'; b++ {
		list = append(list, string(b), strings.Repeat(string(b), impl.MaxWord), "a"+string(b)+"Z", strings.Repeat("x", impl.MaxWord-1)+string(b), string(b)+strings.Repeat("X", impl.MaxWord-1))
	}
	for n := range impl.MaxWord + 1 {
		list = append(list, strings.Repeat("aB\n", impl.MaxWord)[:n], strings.Repeat("\"\\", impl.MaxWord)[:n])
	}
	return append(list, "\n", strings.Repeat("\n", impl.MaxWord))
}

func TestFunctionsOfTexts(t *testing.T) {
	for _, s := range textsToChange() {
		v := leaf(impl.CellText, s)
		for _, name := range []string{"length", "upper", "lower"} {
			if !checkCall(t, name, v) {
				t.Errorf("%s of %q has no result", name, s)
			}
		}
	}
	for _, s := range []string{strings.Repeat("a", impl.MaxWord+1), strings.Repeat("A", impl.MaxText), "\x01", "a\x7f", "\xc3\xa4", "\xff", "a\tb"} {
		for _, name := range functionNames() {
			refused(t, name, leaf(impl.CellText, s))
		}
	}
}

// Promise 93: letters change once.
func TestLettersChangeOnce(t *testing.T) {
	for _, s := range textsToChange() {
		v := leaf(impl.CellText, s)
		large, small := called(t, "upper", v), called(t, "lower", v)
		if again := called(t, "upper", called(t, "lower", large)); !slices.Equal(again, large) {
			t.Errorf("large, small and large again %v is %v", v, again)
		}
		if again := called(t, "lower", called(t, "upper", small)); !slices.Equal(again, small) {
			t.Errorf("small, large and small again %v is %v", v, again)
		}
		if strings.ContainsAny(large[0].Word, "abcdefghijklmnopqrstuvwxyz") || strings.ContainsAny(small[0].Word, "ABCDEFGHIJKLMNOPQRSTUVWXYZ") || !strings.EqualFold(large[0].Word, s) || !strings.EqualFold(small[0].Word, s) {
			t.Errorf("the letters of %v are %v and %v", v, large, small)
		}
	}
}

func TestLengthsOfLists(t *testing.T) {
	for n := range impl.MaxParts + 1 {
		for _, part := range fewValues()[:8] {
			list := tree(impl.CellList, "", slices.Repeat([][]impl.Cell{part}, n)...)
			if got := called(t, "length", list); !slices.Equal(got, leaf(impl.CellNumber, string(rune('0'+n)))) {
				t.Errorf("the length of %v is %v", list, got)
			}
		}
	}
	for _, v := range validValues() {
		checkCall(t, "length", v)
	}
	for n := range impl.MaxWord + 1 {
		v := called(t, "length", leaf(impl.CellText, strings.Repeat("\"", n)))
		if f, ok := impl.ReadFraction(v[0].Word); !ok || f != fraction(n, 1) || v[0].Kind != impl.CellNumber {
			t.Errorf("the length of %d bytes is %v", n, v)
		}
	}
}

func TestLeastAndGreatestNumbers(t *testing.T) {
	var numbers [][]impl.Cell
	for _, f := range validFractions() {
		numbers = append(numbers, leaf(impl.CellNumber, textOf(f)))
	}
	for _, word := range []string{"1000000000", "-1000000000", "0.000001", "-0.000001", "1/999999", "-1/999999", "1000000000/999999", "-1000000000/999999", "999999999.5"} {
		if _, ok := expectedRat(word); ok {
			numbers = append(numbers, leaf(impl.CellNumber, word))
		} else {
			refused(t, "min", leaf(impl.CellNumber, word))
		}
	}
	r := rand.New(rand.NewSource(41))
	for _, a := range numbers {
		for range 40 {
			b, c := numbers[r.Intn(len(numbers))], numbers[r.Intn(len(numbers))]
			for _, list := range [][][]impl.Cell{{a}, {a, b}, {b, a}, {a, a}, {a, b, c}, {b, c, a}, {c, a, b}, {a, b, a}, {b, a, a}} {
				if !checkCall(t, "min", list...) || !checkCall(t, "max", list...) {
					t.Errorf("%v have no least or no greatest one", list)
				}
			}
		}
	}
	// There may be any number of them, and their order does not matter.
	for range 20 {
		r.Shuffle(len(numbers), func(i, j int) { numbers[i], numbers[j] = numbers[j], numbers[i] })
		least, greatest := called(t, "min", numbers...), called(t, "max", numbers...)
		if least[0].Word != "-1000000000" || greatest[0].Word != "1000000000" {
			t.Errorf("the least number is %v and the greatest one %v", least, greatest)
		}
	}
}

// Promise 41: functions return values; the least number is not greater than the greatest one.
func TestLeastIsNotGreater(t *testing.T) {
	r := rand.New(rand.NewSource(4))
	fractions := validFractions()
	for n := range 3000 {
		list := make([][]impl.Cell, 1+n%10)
		for k := range list {
			list[k] = leaf(impl.CellNumber, textOf(fractions[r.Intn(len(fractions))]))
		}
		least, leastOK := impl.ReadFraction(called(t, "min", list...)[0].Word)
		greatest, greatestOK := impl.ReadFraction(called(t, "max", list...)[0].Word)
		if !leastOK || !greatestOK || impl.CompareFractions(least, greatest) > 0 {
			t.Errorf("of %v the least one is %v and the greatest one %v", list, least, greatest)
		}
		for _, v := range list {
			f, _ := impl.ReadFraction(v[0].Word)
			if impl.CompareFractions(least, f) > 0 || impl.CompareFractions(f, greatest) > 0 {
				t.Errorf("%v is not between %v and %v", f, least, greatest)
			}
		}
		for _, v := range [][]impl.Cell{called(t, "min", list...), called(t, "max", list...)} {
			if !slices.ContainsFunc(list, func(c []impl.Cell) bool { return slices.Equal(c, v) }) {
				t.Errorf("%v is none of %v", v, list)
			}
		}
	}
}

// Promises 41 and 92: reversing twice changes nothing, a list has its first part, and reversed lists are as long.
func TestReversedLists(t *testing.T) {
	withParts, without := 0, 0
	for _, list := range listsOf(validValues()) {
		reversed, parts := called(t, "reverse", list), impl.ValueParts(list)
		if again := called(t, "reverse", reversed); !slices.Equal(again, list) {
			t.Errorf("reversed twice %v is %v", list, again)
		}
		if a, b := called(t, "length", list), called(t, "length", reversed); !slices.Equal(a, b) || len(list) != len(reversed) {
			t.Errorf("the length of %v is %v, and reversed %v", list, a, b)
		}
		slices.Reverse(parts)
		if !sameLists(impl.ValueParts(reversed), parts) {
			t.Errorf("reversed %v is %v", list, reversed)
		}
		checkCall(t, "reverse", list)
		checkCall(t, "first", list)
		if len(parts) == 0 {
			without++
			refused(t, "first", list)
			continue
		}
		withParts++
		first, last := called(t, "first", list), called(t, "first", reversed)
		if !slices.Equal(first, parts[len(parts)-1]) || !slices.Equal(last, parts[0]) {
			t.Errorf("the first part of %v is %v, and reversed %v", list, first, last)
		}
		if got := called(t, "contains", list, first); !slices.Equal(got, leaf(impl.CellTruth, "true")) {
			t.Errorf("%v has its first part: %v", list, got)
		}
	}
	if withParts < 300 || without == 0 {
		t.Errorf("there are %d lists with parts and %d without", withParts, without)
	}
}

// otherCells returns values that differ from one in a cell, and others that have it inside.
func otherCells(v []impl.Cell) [][]impl.Cell {
	list := [][]impl.Cell{tree(impl.CellList, "", v), tree(impl.CellList, "", v, v), tree(impl.CellList, "", tree(impl.CellList, "", v)), tree(impl.CellList, "")}
	words := []string{"", "1", "-1", "1/3", "true", "false", "a", "A"}
	for at, c := range v {
		for _, word := range append(words, c.Word+"0", c.Word+"a", "-"+c.Word, strings.ToUpper(c.Word)) {
			for kind := impl.CellNumber; kind <= impl.CellList; kind++ {
				changed := slices.Clone(v)
				changed[at] = impl.Cell{Kind: kind, Word: word, Many: c.Many}
				list = append(list, changed)
			}
		}
	}
	return list
}

func TestPartsThatListsContain(t *testing.T) {
	truth, lie := leaf(impl.CellTruth, "true"), leaf(impl.CellTruth, "false")
	few := slices.Concat(fewValues(), valuesToCall(), limitValues()[:1])
	looked, refusals := 0, 0
	for _, part := range few {
		for _, before := range [][][]impl.Cell{nil, {truth}, {leaf(impl.CellText, ""), tree(impl.CellList, "")}} {
			list := tree(impl.CellList, "", append(slices.Clip(before), part)...)
			if !impl.ValueValid(list) {
				refused(t, "contains", list, part)
				continue
			}
			if got := called(t, "contains", list, part); !slices.Equal(got, truth) {
				t.Errorf("%v contains its last part: %v", list, got)
			}
			for _, other := range otherCells(part) {
				if checkCall(t, "contains", list, other) {
					looked++
				} else {
					refusals++
				}
			}
			// The parts of a part are no parts.
			deep := tree(impl.CellList, "", list)
			if got, ok := impl.CallFunction("contains", [][]impl.Cell{deep, part}); ok && !slices.Equal(got, lie) {
				t.Errorf("%v contains %v: %v", deep, part, got)
			}
		}
	}
	if looked < 1000 || refusals < 1000 {
		t.Errorf("%d other cells are looked for and %d refused", looked, refusals)
	}
}

// All parts are looked for, the parts of parts, the list itself, and some other values.
func TestPartsThatAnyListContains(t *testing.T) {
	r := rand.New(rand.NewSource(40))
	values := slices.Concat(fewValues(), valuesToCall(), simpleValues()[:12], randomValues()[:200])
	contained, others := 0, 0
	for _, list := range listsOf(slices.Concat(randomValues(), limitValues())) {
		wanted := append(impl.ValueParts(list), list, tree(impl.CellList, ""), values[r.Intn(len(values))], values[r.Intn(len(values))])
		for _, part := range wanted {
			got := called(t, "contains", list, part)
			checkCall(t, "contains", list, part)
			if got[0].Word == "true" {
				contained++
			} else {
				others++
			}
		}
		for _, part := range impl.ValueParts(list) {
			for _, inner := range impl.ValueParts(part) {
				checkCall(t, "contains", list, inner)
			}
		}
	}
	if contained < 1000 || others < 1000 {
		t.Errorf("%d parts are contained and %d are not", contained, others)
	}
}

func TestJoinedTexts(t *testing.T) {
	r := rand.New(rand.NewSource(9))
	words := []string{"", "a", "B", ", ", "\"", "\\", "\n", " ", "a b", strings.Repeat("x", 20), strings.Repeat("y", impl.MaxWord-1), strings.Repeat("z", impl.MaxWord)}
	joined, tooLong := 0, 0
	for n := range 6000 {
		parts := make([][]impl.Cell, n%(impl.MaxParts+1))
		for k := range parts {
			parts[k] = leaf(impl.CellText, words[r.Intn(9)])
			if r.Intn(6) == 0 {
				parts[k] = leaf(impl.CellText, words[r.Intn(len(words))])
			}
		}
		if checkCall(t, "join", tree(impl.CellList, "", parts...), leaf(impl.CellText, words[r.Intn(len(words))])) {
			joined++
		} else {
			tooLong++
		}
	}
	if joined < 1000 || tooLong < 1000 {
		t.Errorf("%d lists are joined and %d are not", joined, tooLong)
	}
	// Every part must be a text, and what stands between them, too, also where it would stand nowhere.
	for n := range impl.MaxParts + 1 {
		texts := slices.Repeat([][]impl.Cell{leaf(impl.CellText, "a")}, n)
		for _, other := range valuesToCall() {
			if other[0].Kind == impl.CellText {
				continue
			}
			refused(t, "join", tree(impl.CellList, "", texts...), other)
			for at := range texts {
				parts := slices.Clone(texts)
				parts[at] = other
				refused(t, "join", tree(impl.CellList, "", parts...), leaf(impl.CellText, ""))
				refused(t, "join", tree(impl.CellList, "", parts...), leaf(impl.CellText, ", "))
			}
		}
	}
}

func TestLimitOfJoinedTexts(t *testing.T) {
	// All ways to divide bytes among equal texts, what stands between them, and what is missing, in one of the texts.
	fits, tooLong := 0, 0
	for many := 1; many <= impl.MaxParts; many++ {
		for between := range impl.MaxWord + 1 {
			for _, bytes := range []int{0, 1, impl.MaxWord - 1, impl.MaxWord, impl.MaxWord + 1, impl.MaxWord + 2, 2 * impl.MaxWord} {
				rest := bytes - between*(many-1)
				if rest < 0 || rest > impl.MaxWord {
					continue
				}
				for at := range many {
					parts := slices.Repeat([][]impl.Cell{leaf(impl.CellText, "")}, many)
					parts[at] = leaf(impl.CellText, strings.Repeat("a", rest))
					ok := checkCall(t, "join", tree(impl.CellList, "", parts...), leaf(impl.CellText, strings.Repeat("-", between)))
					if ok != (bytes <= impl.MaxWord) {
						t.Errorf("%d texts of %d bytes with %d between are %v", many, rest, between, ok)
					}
					if ok {
						fits++
					} else {
						tooLong++
					}
				}
			}
		}
	}
	full := leaf(impl.CellText, strings.Repeat("\"", impl.MaxWord))
	if got := called(t, "join", tree(impl.CellList, "", full), full); !slices.Equal(got, full) {
		t.Errorf("a single text is joined as %v", got)
	}
	refused(t, "join", tree(impl.CellList, "", full, full), leaf(impl.CellText, ""))
	if fits < 100 || tooLong < 100 {
		t.Errorf("%d texts fit and %d are too long", fits, tooLong)
	}
}

// One argument that is no value is enough, also where the function would not look at it.
func TestFunctionsOfWhatIsNoValue(t *testing.T) {
	two, word := leaf(impl.CellNumber, "2"), leaf(impl.CellText, "a")
	list, empty := tree(impl.CellList, "", word), tree(impl.CellList, "")
	good := [][][]impl.Cell{{word}, {two}, {list}, {empty}, {two, two}, {two, two, two}, {list, word}, {empty, word}, {list, list}}
	others := append(notValues(), slices.Concat(two, two), slices.Concat(word, word), slices.Concat(list, word), list[:1], leaf(impl.CellName, "length"), tree(impl.CellCall, "length", word), tree(impl.CellCall, "f"), nil, []impl.Cell{})
	for _, no := range others {
		for _, name := range functionNames() {
			refused(t, name, no)
			for _, args := range good {
				for at := range len(args) + 1 {
					refused(t, name, slices.Insert(slices.Clone(args), at, no)...)
					if at < len(args) {
						changed := slices.Clone(args)
						changed[at] = no
						refused(t, name, changed...)
					}
				}
			}
		}
	}
	for _, no := range others[len(others)-9:] {
		refused(t, "f", no)
		refused(t, "", no, word)
	}
}

// Cells that are values only together, or that stand in two arguments, are no value.
func TestDividedArguments(t *testing.T) {
	two, truth := leaf(impl.CellNumber, "2"), leaf(impl.CellTruth, "true")
	pair := tree(impl.CellList, "", two, truth)
	for _, name := range functionNames() {
		refused(t, name, pair[:1], pair[1:])
		refused(t, name, pair[:2], pair[2:])
		refused(t, name, pair, nil)
		refused(t, name, nil, pair)
		refused(t, name, []impl.Cell{})
		refused(t, name, nil, nil)
	}
}

// callsWithResults returns calls of every function whose results stand, as cells or as parts, in their arguments.
func callsWithResults() map[string][][][]impl.Cell {
	word, two, empty := leaf(impl.CellText, "ab"), leaf(impl.CellNumber, "2"), tree(impl.CellList, "")
	list := tree(impl.CellList, "", tree(impl.CellList, "", word, two), empty, word)
	return map[string][][][]impl.Cell{
		"length":   {{word}, {list}},
		"upper":    {{leaf(impl.CellText, "AB")}, {word}},
		"lower":    {{word}, {leaf(impl.CellText, "AB")}},
		"min":      {{two}, {two, two}, {leaf(impl.CellNumber, "3"), two}},
		"max":      {{two}, {two, leaf(impl.CellNumber, "-1/3")}},
		"first":    {{list}, {tree(impl.CellList, "", list)}},
		"reverse":  {{empty}, {list}, {tree(impl.CellList, "", list, list)}, {tree(impl.CellList, "", word)}},
		"contains": {{list, word}, {list, two}, {tree(impl.CellList, "", leaf(impl.CellTruth, "true")), leaf(impl.CellTruth, "true")}},
		"join":     {{tree(impl.CellList, "", word), word}, {tree(impl.CellList, "", word, word), leaf(impl.CellText, "")}},
	}
}

// Results share no memory with arguments or with each other, and nothing is written behind the end of arguments.
func TestResultsOfFunctionsAreNew(t *testing.T) {
	changed := impl.Cell{Kind: 10, Word: "changed", Many: 10}
	for name, calls := range callsWithResults() {
		for _, args := range calls {
			roomy := make([][]impl.Cell, len(args), len(args)+3)
			for k, v := range args {
				roomy[k] = append(make([]impl.Cell, 0, 90), v...)
			}
			got, again := called(t, name, roomy...), called(t, name, roomy...)
			want := slices.Clone(got)
			for at := range got {
				got[at] = changed
			}
			_ = append(got, slices.Repeat([]impl.Cell{changed}, 70)[:cap(got)-len(got)]...)
			if !sameLists(roomy, args) || !slices.Equal(again, want) {
				t.Errorf("%s of %v made %v and %v with its result", name, args, roomy, again)
			}
			for k := range roomy {
				if behind := roomy[k][:90]; !slices.Equal(behind[len(args[k]):], make([]impl.Cell, 90-len(args[k]))) {
					t.Errorf("%s left something behind value %d of %v", name, k, args)
				}
			}
			if behind := roomy[:len(args)+3]; !sameLists(behind[len(args):], make([][]impl.Cell, 3)) {
				t.Errorf("%s left something behind %v", name, args)
			}
			// What is done with the arguments later does not change a result.
			for k := range roomy {
				for at := range roomy[k] {
					roomy[k][at] = changed
				}
			}
			if !slices.Equal(again, want) {
				t.Errorf("the result of %s became %v with its arguments", name, again)
			}
			checkCall(t, name, args...)
		}
	}
	// The same memory may be two arguments, and be inside of another one.
	list := tree(impl.CellList, "", tree(impl.CellList, ""), leaf(impl.CellNumber, "1"))
	checkCall(t, "contains", list, list)
	checkCall(t, "contains", list, list[1:2])
	checkCall(t, "max", list[2:], list[2:])
	checkCall(t, "reverse", list[:3])
}
