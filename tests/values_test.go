package tests

import (
	"math/rand"
	"slices"
	"strings"
	"testing"

	"loop.example/configformatter/impl"
)

func TestValuesByHand(t *testing.T) {
	cases := []struct {
		list []impl.Cell
		text string
	}{
		{leaf(impl.CellNumber, "0"), "0"}, {leaf(impl.CellNumber, "7"), "7"}, {leaf(impl.CellNumber, "-7"), "-7"}, {leaf(impl.CellNumber, "1.5"), "1.5"}, {leaf(impl.CellNumber, "-0.000001"), "-0.000001"}, {leaf(impl.CellNumber, "1/3"), "1/3"}, {leaf(impl.CellNumber, "-22/7"), "-22/7"},
		{leaf(impl.CellNumber, "1000000000"), "1000000000"}, {leaf(impl.CellNumber, "-1000000000"), "-1000000000"}, {leaf(impl.CellNumber, "1/999999"), "1/999999"}, {leaf(impl.CellNumber, "-1000000000/999999"), "-1000000000/999999"}, {leaf(impl.CellNumber, "0.000001"), "0.000001"},
		{leaf(impl.CellText, ""), `""`}, {leaf(impl.CellText, "a b"), `"a b"`}, {leaf(impl.CellText, "\"\\\n"), `"\"\\\n"`}, {leaf(impl.CellText, "[1, 2]"), `"[1, 2]"`}, {leaf(impl.CellText, "true"), `"true"`},
		{leaf(impl.CellTruth, "true"), "true"}, {leaf(impl.CellTruth, "false"), "false"},
		{tree(impl.CellList, ""), "[]"}, {tree(impl.CellList, "", tree(impl.CellList, "")), "[[]]"}, {tree(impl.CellList, "", leaf(impl.CellNumber, "-1/3")), "[-1/3]"},
		{tree(impl.CellList, "", leaf(impl.CellNumber, "1"), leaf(impl.CellText, ", "), leaf(impl.CellTruth, "true")), `[1, ", ", true]`},
		{tree(impl.CellList, "", tree(impl.CellList, "", leaf(impl.CellNumber, "1"), tree(impl.CellList, "")), tree(impl.CellList, ""), tree(impl.CellList, "", leaf(impl.CellNumber, "-2"))), "[[1, []], [], [-2]]"},
	}
	for _, c := range cases {
		if got := impl.ValueText(c.list); got != c.text || !impl.ValueValid(c.list) {
			t.Errorf("ValueText of %s is %q and not %q", shape(c.list), got, c.text)
		}
		checkValue(t, c.list)
	}
	nested := cases[len(cases)-1].list
	want := [][]impl.Cell{tree(impl.CellList, "", leaf(impl.CellNumber, "1"), tree(impl.CellList, "")), tree(impl.CellList, ""), tree(impl.CellList, "", leaf(impl.CellNumber, "-2"))}
	if got := impl.ValueParts(nested); !slices.EqualFunc(got, want, slices.Equal[[]impl.Cell]) {
		t.Errorf("the parts of %s are %v", shape(nested), got)
	}
	if got := impl.ValueParts(tree(impl.CellList, "")); len(got) != 0 {
		t.Errorf("the empty list has the parts %v", got)
	}
}

// Every cell alone, with any word and any number of parts, and as a part of a list.
func TestSingleCellsAsValues(t *testing.T) {
	words, parts, accepted := candidateWords(), candidateParts(), 0
	for _, f := range append(validFractions(), invalidFractions()...) {
		if f.Bottom != 0 {
			words = append(words, ratOf(f).RatString(), ratOf(f).FloatString(3), "-"+ratOf(f).RatString())
		}
	}
	for _, kind := range candidateKinds() {
		for k, word := range words {
			for _, many := range append([]int{0}, parts[k%len(parts)]) {
				c := impl.Cell{Kind: kind, Word: word, Many: many}
				checkValue(t, []impl.Cell{c})
				checkValue(t, []impl.Cell{{Kind: impl.CellList, Many: 3}, {Kind: impl.CellTruth, Word: "true"}, c, {Kind: impl.CellList}})
				if impl.ValueValid([]impl.Cell{c}) {
					accepted++
				}
			}
		}
		for _, many := range parts {
			for _, word := range []string{"", "1", "-1", "1/3", "true", "a"} {
				checkValue(t, []impl.Cell{{Kind: kind, Word: word, Many: many}})
				checkValue(t, []impl.Cell{{Kind: kind, Word: word, Many: many}, {Kind: impl.CellNumber, Word: "-1"}})
			}
		}
	}
	if accepted < 300 {
		t.Errorf("only %d cells are accepted", accepted)
	}
}

func TestShortNumbersOfValues(t *testing.T) {
	accepted := 0
	for _, word := range textsUpTo(5, "-0123./") {
		list := leaf(impl.CellNumber, word)
		_, valid := expectedRat(word)
		if got := impl.ValueValid(list); got != valid {
			t.Errorf("the number %q is %v", word, got)
		}
		checkValue(t, list)
		if valid {
			accepted++
		}
	}
	if accepted < 1000 {
		t.Errorf("only %d numbers are accepted", accepted)
	}
}

// All lists of at most five cells, of those that values have and of others.
func TestShortListsAsValues(t *testing.T) {
	alphabet := []impl.Cell{
		{Kind: impl.CellNumber, Word: "-1/3"}, {Kind: impl.CellText, Word: ", "}, {Kind: impl.CellList}, {Kind: impl.CellList, Many: 1}, {Kind: impl.CellList, Many: 2}, {Kind: impl.CellList, Many: 3},
		{Kind: impl.CellName, Word: "a"}, {Kind: impl.CellUnary, Word: "-", Many: 1},
	}
	var grow func(list []impl.Cell, more int)
	grow = func(list []impl.Cell, more int) {
		checkValue(t, list)
		if more == 0 {
			return
		}
		for _, c := range alphabet {
			grow(append(slices.Clip(list), c), more-1)
		}
	}
	grow(nil, 5)
	for _, list := range smallExprs(8, alphabet[:6]) {
		checkValue(t, list)
	}
}

func TestValues(t *testing.T) {
	for _, list := range validValues() {
		if _, ok := meaning(list); !ok {
			t.Fatalf("%v should be a value", list)
		}
		checkValue(t, list)
	}
	if n := len(wideValue(impl.MaxCells)); n != impl.MaxCells {
		t.Fatalf("there are %d cells", n)
	}
}

func TestWhatIsNoValue(t *testing.T) {
	for _, list := range notValues() {
		if _, ok := meaning(list); ok {
			t.Fatalf("%.300v should be no value", list)
		}
		checkValue(t, list)
		checkList(t, [][]impl.Cell{list})
		if len(list) == 0 || len(list) > impl.MaxCells {
			continue
		}
		// Deep inside of lists it is found, too.
		for _, step := range listSteps() {
			inside := list
			for range 5 {
				inside = step(inside)
				checkValue(t, inside)
			}
		}
	}
}

// Every cell of a value counts: with one that is changed, left out, or put in, it is what is expected.
func TestChangedValues(t *testing.T) {
	r := rand.New(rand.NewSource(88))
	words, kinds, parts := append(candidateWords(), "-1/3", "2/3"), candidateKinds(), candidateParts()
	valid, refused := 0, 0
	for _, list := range append(validValues(), randomValues()...) {
		at := r.Intn(len(list))
		changes := []impl.Cell{
			{Kind: 1 + r.Intn(9), Word: list[at].Word, Many: list[at].Many},
			{Kind: kinds[r.Intn(len(kinds))], Word: list[at].Word, Many: list[at].Many},
			{Kind: list[at].Kind, Word: words[r.Intn(len(words))], Many: list[at].Many},
			{Kind: list[at].Kind, Word: list[at].Word, Many: parts[r.Intn(len(parts))]},
			{Kind: impl.CellNumber, Word: "-2/3"},
			{Kind: impl.CellName, Word: "a"},
		}
		for _, c := range changes {
			for _, changed := range [][]impl.Cell{slices.Concat(list[:at], []impl.Cell{c}, list[at+1:]), slices.Concat(list[:at], []impl.Cell{c}, list[at:]), slices.Concat(list[:at], list[at+1:]), slices.Concat(list, []impl.Cell{c})} {
				checkValue(t, changed)
				if impl.ValueValid(changed) {
					valid++
				} else {
					refused++
				}
			}
		}
	}
	if valid < 500 || refused < 500 {
		t.Errorf("%d changed values are valid and %d are not", valid, refused)
	}
}

// Promise 37: values have no names; a value is one in a list with it alone, if that is neither too deep nor too long.
func TestValuesInLists(t *testing.T) {
	inside, deep, long := 0, 0, 0
	for _, list := range validValues() {
		in := tree(impl.CellList, "", list)
		fits := len(in) <= 60 && depthOf(list) < 12
		if got := impl.ValueValid(in); got != fits || !impl.ValueValid(list) {
			t.Errorf("%v is %v, and in a list %v", list, impl.ValueValid(list), got)
		}
		switch {
		case fits:
			inside++
		case len(in) > 60:
			long++
		default:
			deep++
		}
	}
	if inside == 0 || deep == 0 || long == 0 {
		t.Errorf("in a list %d are valid, %d too deep and %d too long", inside, deep, long)
	}
	for _, word := range goodWords()[impl.CellName] {
		name := leaf(impl.CellName, word)
		checkValue(t, name)
		if impl.ValueValid(name) || impl.ValueValid(tree(impl.CellList, "", name)) || impl.ValueText(name) != "" {
			t.Errorf("the name %s is a value", word)
		}
	}
	for _, list := range validExprs() {
		checkValue(t, list)
		named := slices.ContainsFunc(list, func(c impl.Cell) bool {
			return c.Kind != impl.CellNumber && c.Kind != impl.CellText && c.Kind != impl.CellTruth && c.Kind != impl.CellList
		})
		if impl.ValueValid(list) == named {
			t.Errorf("the expression %s is as a value %v", shape(list), !named)
		}
	}
}

// depthOf returns the depth of a value.
func depthOf(list []impl.Cell) int {
	plain := slices.Clone(list)
	for k := range plain {
		if plain[k].Kind == impl.CellNumber {
			plain[k].Word = "1"
		}
	}
	return expectedSpans(plain)[0].depth
}

// Promise 38: values have texts, which are read as the value without negative numbers and fractions with /.
func TestTextsOfValuesAreRead(t *testing.T) {
	read, others := 0, 0
	for _, list := range validValues() {
		s := impl.ValueText(list)
		if slices.ContainsFunc(list, func(c impl.Cell) bool { return c.Kind == impl.CellNumber && strings.ContainsAny(c.Word, "-/") }) {
			others++
			if back, ok := impl.ReadExpr(s); impl.ExprValid(list) || ok && slices.Equal(back, list) {
				t.Errorf("%q is read as %v", s, back)
			}
			continue
		}
		read++
		checkReading(t, s, list)
		if impl.ExprText(list) != s {
			t.Errorf("the text of %v is %q, and as an expression %q", list, s, impl.ExprText(list))
		}
	}
	if read < 300 || others < 300 {
		t.Errorf("%d texts are read and %d are not", read, others)
	}
}

// Promises 39 and 40: ListValue of the parts is the list, and ValueParts of the list are the parts.
func TestListsHaveParts(t *testing.T) {
	lists := 0
	for _, list := range validValues() {
		parts := impl.ValueParts(list)
		if list[0].Kind != impl.CellList {
			if len(parts) != 0 {
				t.Errorf("%v has the parts %v", list, parts)
			}
			continue
		}
		lists++
		back, ok := impl.ListValue(parts)
		if !ok || !slices.Equal(back, list) || len(parts) != list[0].Many {
			t.Errorf("the list of the parts of %v is %v", list, back)
		}
		for _, part := range parts {
			if !impl.ValueValid(part) {
				t.Errorf("%v has the part %v", list, part)
			}
		}
	}
	if lists < 300 {
		t.Errorf("there are only %d lists", lists)
	}
}

func TestPartsMakeLists(t *testing.T) {
	r := rand.New(rand.NewSource(40))
	values, made, refused := validValues(), 0, 0
	for n := range 4000 {
		parts := make([][]impl.Cell, n%(impl.MaxParts+2))
		for k := range parts {
			if parts[k] = values[r.Intn(len(values))]; r.Intn(3) > 0 {
				parts[k] = fewValues()[r.Intn(10)]
			}
		}
		if !checkList(t, parts) {
			refused++
			continue
		}
		made++
		list, _ := impl.ListValue(parts)
		if got := impl.ValueParts(list); !slices.EqualFunc(got, parts, slices.Equal[[]impl.Cell]) {
			t.Errorf("the parts of the list of %v are %v", parts, got)
		}
		checkValue(t, list)
	}
	if made < 500 || refused < 500 {
		t.Errorf("%d lists are made and %d are not", made, refused)
	}
}

func TestLimitsOfLists(t *testing.T) {
	empty := tree(impl.CellList, "")
	for _, parts := range [][][]impl.Cell{nil, {}} {
		if list, ok := impl.ListValue(parts); !ok || !slices.Equal(list, empty) {
			t.Errorf("the list of no parts is %v, %v", list, ok)
		}
	}
	for _, part := range simpleValues() {
		for _, n := range []int{1, 2, impl.MaxParts - 1, impl.MaxParts, impl.MaxParts + 1, impl.MaxParts + 2, 60, 1000} {
			if checkList(t, slices.Repeat([][]impl.Cell{part}, n)) != (n <= impl.MaxParts) {
				t.Errorf("there is a list of %d parts, or none", n)
			}
		}
	}
	// All places of a long or deep part, and both sides of the limits.
	for cells := impl.MaxCells - 9; cells <= impl.MaxCells; cells++ {
		for behind := range impl.MaxParts {
			for before := range impl.MaxParts - behind {
				parts := slices.Concat(slices.Repeat([][]impl.Cell{empty}, before), [][]impl.Cell{wideValue(cells)}, slices.Repeat([][]impl.Cell{empty}, behind))
				if checkList(t, parts) != (1+before+cells+behind <= impl.MaxCells) {
					t.Errorf("a list with %d parts before and %d behind one of %d cells is wrong", before, behind, cells)
				}
			}
		}
	}
	for _, step := range listSteps() {
		for depth := impl.MaxDepth - 2; depth <= impl.MaxDepth+1; depth++ {
			deep := chain(depth, step)
			for _, parts := range [][][]impl.Cell{{deep}, {empty, deep}, {deep, empty}, {empty, deep, empty}} {
				if checkList(t, parts) != (depth < impl.MaxDepth) {
					t.Errorf("a list with a part of the depth %d is wrong", depth)
				}
			}
		}
	}
}

func TestListsOfWhatIsNoValue(t *testing.T) {
	few := fewValues()
	for _, no := range notValues() {
		for n := 1; n <= impl.MaxParts+1; n++ {
			for at := range n {
				parts := slices.Repeat(few[:1], n)
				parts[at] = no
				if list, ok := impl.ListValue(parts); ok || list != nil {
					t.Errorf("a list with %.300v as part %d of %d is %v", no, at, n, list)
				}
			}
		}
		checkList(t, [][]impl.Cell{few[8], no, few[9]})
	}
	// Parts that are a list only together are none, although all cells in a row would be one.
	half := []impl.Cell{{Kind: impl.CellList, Many: 2}, {Kind: impl.CellTruth, Word: "true"}}
	truth := leaf(impl.CellTruth, "true")
	for _, parts := range [][][]impl.Cell{{half, truth}, {nil, truth}, {truth, nil}, {slices.Concat(truth, truth), nil}, {nil}, {{}}, {nil, nil}} {
		if list, ok := impl.ListValue(parts); ok || list != nil {
			t.Errorf("the list of %v is %v", parts, list)
		}
	}
}

// Promise 91: texts of lists are those of parts.
func TestTextsOfListsAreThoseOfParts(t *testing.T) {
	values := append(append(fewValues(), simpleValues()...), randomValues()[:60]...)
	made := 0
	for _, a := range values {
		for _, b := range values {
			list, ok := impl.ListValue([][]impl.Cell{a, b})
			if !ok {
				if len(a)+len(b) < impl.MaxCells && depthOf(a) < impl.MaxDepth && depthOf(b) < impl.MaxDepth {
					t.Errorf("%v and %v make no list", a, b)
				}
				continue
			}
			made++
			if s := impl.ValueText(list); s != "["+impl.ValueText(a)+", "+impl.ValueText(b)+"]" {
				t.Errorf("the text of the list of %v and %v is %q", a, b, s)
			}
		}
	}
	if made < 5000 {
		t.Errorf("only %d lists are made", made)
	}
}

// What stands in the memory behind the end of cells is no part of a value, and is not changed.
func TestCellsBehindTheEndOfValues(t *testing.T) {
	for _, list := range append(fewValues(), limitValues()...) {
		room := slices.Concat(list, list)
		checkValue(t, room[:len(list)])
		checkValue(t, room[:len(list)-1])
		checkList(t, [][]impl.Cell{room[:len(list)], room[:len(list)]})
		if !slices.Equal(room, slices.Concat(list, list)) {
			t.Errorf("the cells behind %v were changed", list)
		}
	}
}

func TestPartsOfValuesAreNew(t *testing.T) {
	changed := impl.Cell{Kind: 10, Word: "changed", Many: 10}
	for _, list := range append(fewValues(), limitValues()...) {
		before, want := slices.Clone(list), impl.ValueParts(list)
		for k := range want {
			parts := impl.ValueParts(list)
			for at := range parts[k] {
				parts[k][at] = changed
			}
			_ = append(parts[k], slices.Repeat([]impl.Cell{changed}, 70)[:cap(parts[k])-len(parts[k])]...)
			parts[k] = nil
			for j := range parts {
				if j != k && !slices.Equal(parts[j], want[j]) {
					t.Errorf("part %d of %v became %v with part %d", j, list, parts[j], k)
				}
			}
			_ = append(parts, make([][]impl.Cell, cap(parts)-len(parts))...)
		}
		if !slices.Equal(list, before) {
			t.Errorf("%v became %v with its parts", before, list)
		}
		checkValue(t, list)
	}
}

func TestListsAreNew(t *testing.T) {
	changed := impl.Cell{Kind: 10, Word: "changed", Many: 10}
	few := fewValues()
	for _, parts := range [][][]impl.Cell{{}, {few[0]}, {few[9]}, {few[8], few[1], few[8]}, {few[5], few[6]}} {
		// There is room behind every part, so that something could be put there.
		roomy := make([][]impl.Cell, len(parts), len(parts)+3)
		for k, part := range parts {
			roomy[k] = append(make([]impl.Cell, 0, 90), part...)
		}
		list, _ := impl.ListValue(roomy)
		again, _ := impl.ListValue(roomy)
		for at := range list {
			list[at] = changed
		}
		_ = append(list, slices.Repeat([]impl.Cell{changed}, 70)[:cap(list)-len(list)]...)
		if !slices.Equal(again, tree(impl.CellList, "", parts...)) || !slices.EqualFunc(roomy, parts, slices.Equal[[]impl.Cell]) {
			t.Errorf("%v and its list %v became others", parts, again)
		}
		for k := range roomy {
			if behind := roomy[k][:90]; !slices.Equal(behind[len(parts[k]):], make([]impl.Cell, 90-len(parts[k]))) {
				t.Errorf("something stands behind part %d of %v", k, parts)
			}
		}
		checkList(t, roomy)
	}
}
