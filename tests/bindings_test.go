package tests

import (
	"slices"
	"strconv"
	"strings"
	"testing"

	"loop.example/configformatter/impl"
)

// manyBindings returns so many bindings with different names.
func manyBindings(n int) []impl.Binding {
	values := valuesToCall()
	var env []impl.Binding
	for k := range n {
		env = append(env, bind("x"+strconv.Itoa(k), values[k%len(values)]))
	}
	return env
}

// checkBindings compares whether bindings are valid with what is expected; only with valid ones there are values, also if no name is looked up.
func checkBindings(t *testing.T, env []impl.Binding, want bool) {
	t.Helper()
	before := clonedBindings(env)
	if got := impl.BindingsValid(env); got != want {
		t.Errorf("BindingsValid of %d bindings %s is %v", len(env), shortly(env), got)
	}
	for _, list := range writtenAll("1", `"a"`, "true", "[]", "1 + 1", "true || u", "length([])") {
		if v, ok := impl.Evaluate(list, env); ok != want || !ok && v != nil {
			t.Errorf("the value of %s with %d bindings %s is %v, %v", shape(list), len(env), shortly(env), v, ok)
		}
	}
	if !sameBindings(env, before) {
		t.Errorf("the bindings %s became %s", shortly(before), shortly(env))
	}
}

func TestNumbersOfBindings(t *testing.T) {
	if impl.MaxBindings != 30 {
		t.Errorf("MaxBindings is %d", impl.MaxBindings)
	}
	checkBindings(t, nil, true)
	checkBindings(t, []impl.Binding{}, true)
	for n := range 40 {
		checkBindings(t, manyBindings(n), n <= impl.MaxBindings)
	}
	checkBindings(t, manyBindings(100000), false)
	for _, list := range []string{"x29", "[x0, x15, x29]"} {
		if !settingOf(manyBindings(impl.MaxBindings)...).check(t, written(list)) || settingOf(manyBindings(impl.MaxBindings+1)...).check(t, written(list)) {
			t.Errorf("%s is evaluated with too few bindings, or with too many", list)
		}
	}
}

func TestNamesOfBindings(t *testing.T) {
	two := leaf(impl.CellNumber, "2")
	for _, name := range slices.Concat(candidateWords(), textsUpTo(3, "az1_.A "), []string{"a" + strings.Repeat(".a", 1000), strings.Repeat("nnnnnnnnnnnn.", 5) + "a"}) {
		valid := namePattern.MatchString(name) && name != "true" && name != "false"
		checkBindings(t, []impl.Binding{bind(name, two)}, valid)
		checkBindings(t, append(manyBindings(3), bind(name, two)), valid)
	}
	for _, name := range []string{"", "A", "1", "true", "false", "a.", ".a", "a b", "a..b", "nnnnnnnnnnnnn", "a\n", "\xff"} {
		for _, n := range []int{1, 2, impl.MaxBindings} {
			for at := range n {
				env := manyBindings(n)
				env[at].Name = name
				checkBindings(t, env, false)
			}
		}
	}
}

// A name of more than MaxWord bytes stands in no cell, but it may be bound.
func TestLongNamesOfBindings(t *testing.T) {
	word := leaf(impl.CellText, "long")
	for n := impl.MaxWord - 4; n <= impl.MaxWord+4; n++ {
		before := (n - 1) / 2
		name := strings.Repeat("a.", before) + strings.Repeat("n", n-2*before)
		s := settingOf(bind(name, word), bind("x", word))
		if s.bound == nil || !s.check(t, written("x")) || s.check(t, leaf(impl.CellName, name)) != (len(name) <= impl.MaxWord) {
			t.Errorf("a name of %d bytes is bound to %s", len(name), shortly(s.env))
		}
	}
}

func TestValuesOfBindings(t *testing.T) {
	for _, v := range validValues() {
		checkBindings(t, []impl.Binding{bind("x", v)}, true)
	}
	others := append(notValues(), nil, []impl.Cell{}, leaf(impl.CellName, "x"), leaf(impl.CellName, "a"), tree(impl.CellCall, "length", leaf(impl.CellText, "")), tree(impl.CellCall, "f"), tree(impl.CellUnary, "-", leaf(impl.CellNumber, "1")), tree(impl.CellBinary, "+", leaf(impl.CellNumber, "1"), leaf(impl.CellNumber, "1")), tree(impl.CellChoice, "", leaf(impl.CellTruth, "true"), leaf(impl.CellNumber, "1"), leaf(impl.CellNumber, "1")))
	for _, v := range fewValues() {
		others = append(others, v[:len(v)-1], slices.Concat(v, v), slices.Concat(v, leaf(impl.CellTruth, "true")), tree(impl.CellList, "", leaf(impl.CellName, "x"), v))
	}
	for _, no := range others {
		checkBindings(t, []impl.Binding{bind("x", no)}, false)
		for _, n := range []int{2, impl.MaxBindings} {
			for _, at := range []int{0, n / 2, n - 1} {
				env := manyBindings(n)
				env[at].Value = no
				checkBindings(t, env, false)
			}
		}
	}
}

// What stands in the memory behind the end of a value is no part of it.
func TestCellsBehindTheEndOfBindings(t *testing.T) {
	for _, v := range slices.Concat(fewValues(), limitValues()) {
		room := slices.Concat(v, v)
		checkBindings(t, []impl.Binding{bind("x", room[:len(v)])}, true)
		checkBindings(t, []impl.Binding{bind("x", room[:len(v)+1])}, false)
		checkBindings(t, []impl.Binding{bind("x", room[:len(v)-1])}, false)
		if !slices.Equal(room, slices.Concat(v, v)) {
			t.Errorf("the cells behind %v were changed", v)
		}
	}
	env := append(manyBindings(5), bind("x0", nil), bind("A", nil))
	checkBindings(t, env[:5], true)
	checkBindings(t, env[:6], false)
	checkBindings(t, env[5:], false)
}

// Promise 42: bindings have different names.
func TestBindingsHaveDifferentNames(t *testing.T) {
	for _, env := range [][]impl.Binding{usualBindings(), manyBindings(1), manyBindings(2), manyBindings(impl.MaxBindings - 1), manyBindings(impl.MaxBindings)} {
		for from := range len(env) + 1 {
			for to := from; to <= len(env); to++ {
				if !impl.BindingsValid(env[from:to]) {
					t.Errorf("the bindings %d to %d of %v are not valid", from, to, env)
				}
			}
		}
		for at := range env {
			checkBindings(t, slices.Delete(slices.Clone(env), at, at+1), true)
			for to := range len(env) + 1 {
				twice := slices.Insert(slices.Clone(env), to, env[at])
				checkBindings(t, twice, false)
				// The values do not matter.
				twice[to].Value = leaf(impl.CellText, "another one")
				checkBindings(t, twice, false)
			}
			for other := range env {
				if other != at {
					same := slices.Clone(env)
					same[other].Name = env[at].Name
					checkBindings(t, same, false)
				}
			}
		}
		checkBindings(t, append(slices.Clip(env), env[0]), false)
		checkBindings(t, append(env[:1:1], env...), false)
	}
	// The values may be the same, and names may be parts of each other.
	two := leaf(impl.CellNumber, "2")
	checkBindings(t, []impl.Binding{bind("a", two), bind("b", two), bind("a.a", two), bind("aa", two), bind("a.b", two), bind("b.a", two), bind("a.a.a", two), bind("a_a", two)}, true)
}

// expectedNames returns the names in an expression; nil for other cells.
func expectedNames(list []impl.Cell) []string {
	if expectedSpans(list) == nil {
		return nil
	}
	found := map[string]bool{}
	for _, c := range list {
		if c.Kind == impl.CellName {
			found[c.Word] = true
		}
	}
	var names []string
	for name := range found {
		at, _ := slices.BinarySearch(names, name)
		names = slices.Insert(names, at, name)
	}
	return names
}

// checkNames compares the names in cells with what is expected.
func checkNames(t *testing.T, list []impl.Cell) {
	t.Helper()
	before := slices.Clone(list)
	if got, want := impl.NamesIn(list), expectedNames(list); !slices.Equal(got, want) {
		t.Errorf("the names in %s are %q and not %q", shortly(list), got, want)
	}
	if !slices.Equal(list, before) {
		t.Errorf("%s became %s", shortly(before), shortly(list))
	}
}

func TestNamesByHandInExpressions(t *testing.T) {
	cases := map[string]string{
		"1": "", `"a"`: "", "true": "", "[]": "", "f()": "", "f(1)": "", `[1, "b", true]`: "", "-1 + 2": "",
		"a": "a", "a.b": "a.b", "a + a": "a", "b + a": "a b", "[b, a, b, a]": "a b", "f(a)": "a", "f(f)": "f", "f(g(x, h()), f)": "f x", "!a": "a", "-a.b.c": "a.b.c", "a ? b : c": "a b c", "c ? b : a": "a b c", "true || u": "u", "false && (u ? v : w)": "u v w",
		"b + a * b + f(q.c)": "a b q.c", "aa + a + a.a + ab + a_ + a1": "a a.a a1 a_ aa ab", "(z < y) == (x > w)": "w x y z", "true.a + a.true": "a.true true.a", `a + "b"`: "a", "port.x - port": "port port.x", "[[[[d]], c], [b, [a]]]": "a b c d",
	}
	for text, want := range cases {
		if got := strings.Join(impl.NamesIn(written(text)), " "); got != want {
			t.Errorf("the names in %s are %q and not %q", text, got, want)
		}
		checkNames(t, written(text))
	}
}

// Promise 44: names are in expressions.
func TestNamesAreInExpressions(t *testing.T) {
	named := 0
	for _, list := range slices.Concat(validExprs(), limitExprs(), madeExprs(44, 2000), smallExprs(5, mixedCells())) {
		checkNames(t, list)
		names := impl.NamesIn(list)
		for k, name := range names {
			if k > 0 && names[k-1] >= name {
				t.Errorf("the names %q of %s do not ascend", names, shape(list))
			}
			if !slices.ContainsFunc(list, func(c impl.Cell) bool { return c.Kind == impl.CellName && c.Word == name }) {
				t.Errorf("the name %s is not in %s", name, shape(list))
			}
		}
		if len(names) > 2 {
			named++
		}
	}
	if named < 100 {
		t.Errorf("only %d expressions have several names", named)
	}
	// As many different names as there is room for.
	var parts [][]impl.Cell
	for k := range 52 {
		parts = append(parts, leaf(impl.CellName, string(rune('z'-k%26))+strings.Repeat("x", k/26)))
	}
	for n := range len(parts) + 1 {
		var lists [][]impl.Cell
		for few := range slices.Chunk(parts[:n], impl.MaxParts) {
			lists = append(lists, tree(impl.CellList, "", few...))
		}
		list := tree(impl.CellList, "", lists...)
		checkNames(t, list)
		if got := impl.NamesIn(list); len(got) != n {
			t.Errorf("there are %d names in %d", len(got), n)
		}
	}
}

func TestNamesInOtherCells(t *testing.T) {
	a := leaf(impl.CellName, "a")
	others := append(invalidExprs(), slices.Concat(a, a), tree(impl.CellUnary, "+", a), tree(impl.CellCall, "a.b", a), tree(impl.CellBinary, "+", a), append(a, impl.Cell{}), []impl.Cell{{Kind: impl.CellName, Word: "a", Many: 1}}, tree(impl.CellList, "", leaf(impl.CellNumber, "-1"), a), tree(impl.CellList, "", leaf(impl.CellNumber, "1/3"), a), leaf(impl.CellName, "A"), leaf(impl.CellName, "true"), leaf(impl.CellName, ""), leaf(impl.CellName, "a"+strings.Repeat(".a", 30)))
	for _, list := range others {
		if got := impl.NamesIn(list); got != nil {
			t.Errorf("the names in %s are %q", shortly(list), got)
		}
		checkNames(t, list)
	}
	for _, list := range slices.Concat(ordinaryExprs(), edgeExprs()) {
		room := slices.Concat(list, list)
		checkNames(t, room[:len(list)])
		checkNames(t, room[:len(list)-1])
		checkNames(t, room[:len(list)+1])
	}
}

func TestNamesAreNew(t *testing.T) {
	for _, text := range []string{"a", "b + a", "[c, b, a, a, b, c]", "a + a + a"} {
		list := written(text)
		first, second := impl.NamesIn(list), impl.NamesIn(list)
		want := slices.Clone(second)
		for k := range first {
			first[k] = "changed"
		}
		_ = append(first, slices.Repeat([]string{"changed"}, 20)[:cap(first)-len(first)]...)
		if !slices.Equal(second, want) {
			t.Errorf("the names of %s became %q", text, second)
		}
		checkNames(t, list)
	}
}
