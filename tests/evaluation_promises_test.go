package tests

import (
	"slices"
	"strings"
	"testing"

	"loop.example/configformatter/impl"
)

// exprsToPromise returns expressions with values and without, of all kinds and sizes.
func exprsToPromise(seed int64) [][]impl.Cell {
	return slices.Concat(partsToTry(), madeExprs(seed, 2500), simpleValues(), limitValues(), ordinaryExprs())
}

// Promise 43: values do not depend on other bindings.
func TestValuesDoNotDependOnOtherBindings(t *testing.T) {
	usual := usualBindings()
	others := []string{"u", "zz", "a.a", "s.s", "srv", "srv.port.x.y", "aa", "min", "upper", "true.b", "a" + strings.Repeat(".a", 40)}
	with, without := 0, 0
	for k, list := range exprsToPromise(43) {
		want, ok := impl.Evaluate(list, usual)
		if ok {
			with++
		} else {
			without++
		}
		names := impl.NamesIn(list)
		same := func(env []impl.Binding) {
			if got, still := impl.Evaluate(list, env); !slices.Equal(got, want) || still != ok {
				t.Errorf("the value of %s is %s with %s and %s with %s", shape(list), shortly(want), shortly(usual), shortly(got), shortly(env))
			}
		}
		for n, name := range others {
			if !slices.Contains(names, name) {
				v := valuesToCall()[(k+n)%15]
				same(append(slices.Clip(usual), bind(name, v)))
				same(append([]impl.Binding{bind(name, v)}, usual...))
			}
		}
		// As many more as there is room for; and only those that are needed, in another order.
		same(append(slices.Clip(usual), manyBindings(impl.MaxBindings-len(usual))...))
		needed := slices.DeleteFunc(slices.Clone(usual), func(b impl.Binding) bool { return !slices.Contains(names, b.Name) })
		slices.Reverse(needed)
		same(needed)
	}
	if with < 1000 || without < 300 {
		t.Errorf("%d expressions have values and %d have none", with, without)
	}
}

func TestValuesOfValues(t *testing.T) {
	exprs := 0
	for _, env := range [][]impl.Binding{nil, usualBindings()} {
		s := settingOf(env...)
		for _, v := range validValues() {
			if s.check(t, v) != (expectedSpans(v) != nil) {
				t.Errorf("the value of %v is there, or not", v)
			}
			if expectedSpans(v) == nil {
				continue
			}
			exprs++
			if got := s.value(t, v); !slices.Equal(got, v) {
				t.Errorf("the value of %v is %v", v, got)
			}
		}
		// The value of an expression is a value, and that of the value again the same.
		for _, list := range exprsToPromise(4) {
			if v, ok := impl.Evaluate(list, env); ok && impl.ExprValid(v) {
				if again := s.value(t, v); !slices.Equal(again, v) {
					t.Errorf("the value of the value %v of %s is %v", v, shape(list), again)
				}
			}
		}
	}
	if exprs < 300 {
		t.Errorf("only %d values are expressions", exprs)
	}
}

// Promise 94: choices choose.
func TestChoicesChoose(t *testing.T) {
	s := settingOf(usualBindings()...)
	truths := writtenAll("true", "false", "t", "f", "!t", "1 < 2", "a == 2", "f && u", "contains(m, 1)", "t || u")
	others := writtenAll("1", "0", `"true"`, "[]", "[true]", "u", "1 / 0", "f && t && u || u", "-t", "s", "f()")
	chosen := 0
	for _, list := range exprsToPromise(94) {
		want, ok := impl.Evaluate(list, s.env)
		for _, condition := range truths {
			choice := tree(impl.CellChoice, "", condition, list, list)
			if !impl.ExprValid(choice) {
				continue
			}
			if got, still := impl.Evaluate(choice, s.env); !slices.Equal(got, want) || still != ok {
				t.Errorf("the value of %s is %s and not %s", shape(choice), shortly(got), shortly(want))
			}
			if ok {
				chosen++
			}
		}
		for _, condition := range others {
			if v, ok := impl.Evaluate(tree(impl.CellChoice, "", condition, list, list), s.env); ok || v != nil {
				t.Errorf("with the condition %s the value of %s is %v", shape(condition), shape(list), v)
			}
		}
	}
	if chosen < 5000 {
		t.Errorf("only %d values are chosen", chosen)
	}
}

// Promise 95: values equal themselves.
func TestValuesEqualThemselves(t *testing.T) {
	s, equal := settingOf(usualBindings()...), 0
	truth, lie := leaf(impl.CellTruth, "true"), leaf(impl.CellTruth, "false")
	for _, list := range exprsToPromise(95) {
		_, ok := impl.Evaluate(list, s.env)
		same, different := tree(impl.CellBinary, "==", list, list), tree(impl.CellBinary, "!=", list, list)
		if !impl.ExprValid(same) {
			continue
		}
		if s.check(t, same) != ok || s.check(t, different) != ok {
			t.Errorf("%s has no value and is compared, or the other way around", shape(list))
		}
		if !ok {
			continue
		}
		equal++
		if got := s.value(t, same); !slices.Equal(got, truth) {
			t.Errorf("the value of %s is %v", shape(same), got)
		}
		if got := s.value(t, different); !slices.Equal(got, lie) {
			t.Errorf("the value of %s is %v", shape(different), got)
		}
	}
	for _, v := range validValues() {
		s := settingOf(bind("x", v))
		if got, not := s.value(t, written("x == x")), s.value(t, written("x != x")); !slices.Equal(got, truth) || !slices.Equal(not, lie) {
			t.Errorf("%v is equal to itself %v and different from itself %v", v, got, not)
		}
	}
	if equal < 800 {
		t.Errorf("only %d expressions are equal to themselves", equal)
	}
}

// Promise 96: names stand for values.
func TestNamesStandForValues(t *testing.T) {
	usual, bound := usualBindings(), 0
	names := []string{"x", "x.y", "srv", "port", "a.a", "true.b", "nnnnnnnnnnnn.nnnnnnnnnnnn"}
	for k, list := range exprsToPromise(96) {
		want, ok := impl.Evaluate(list, usual)
		if !ok {
			continue
		}
		bound++
		for _, name := range names {
			for _, env := range [][]impl.Binding{append(slices.Clip(usual), bind(name, want)), append([]impl.Binding{bind(name, want)}, usual...)} {
				s := settingOf(env...)
				if got := s.value(t, leaf(impl.CellName, name)); !slices.Equal(got, want) {
					t.Errorf("%s is bound to %v and has the value %v", name, want, got)
				}
			}
		}
		// In an expression the name may stand instead of the expression.
		s := settingOf(append(slices.Clip(usual), bind("x", want))...)
		for n, p := range positions() {
			if (n+k)%6 > 0 {
				continue
			}
			whole, short := p.with(list), p.with(leaf(impl.CellName, "x"))
			if !impl.ExprValid(whole) {
				continue
			}
			first, firstOK := impl.Evaluate(whole, s.env)
			second, secondOK := impl.Evaluate(short, s.env)
			if !slices.Equal(first, second) || firstOK != secondOK {
				t.Errorf("the value of %s is %v, and with %v as x %v", shape(whole), first, want, second)
			}
		}
	}
	if bound < 1000 {
		t.Errorf("only %d values are bound", bound)
	}
	for _, v := range validValues() {
		if got := settingOf(bind("x", v)).value(t, written("x")); !slices.Equal(got, v) {
			t.Errorf("x is bound to %v and has the value %v", v, got)
		}
	}
}

// roomyBindings returns bindings with room behind the end of every value, and of the list.
func roomyBindings(env []impl.Binding) []impl.Binding {
	roomy := append(make([]impl.Binding, 0, len(env)+5), env...)
	for k := range roomy {
		roomy[k].Value = append(make([]impl.Cell, 0, 90), env[k].Value...)
	}
	return roomy
}

// Results share no memory with arguments or with each other, and nothing is written behind the end of arguments.
func TestValuesAreNew(t *testing.T) {
	changed := impl.Cell{Kind: 10, Word: "changed", Many: 10}
	usual := usualBindings()
	for _, list := range append(writtenAll("m", "n", "s", "[m, m]", "m + []", "[] + n", "m + m", "first(n)", "first([m])", "t ? n : m", "f ? m : n", "reverse(m)", "f || t", "t && f", "[1, [2, 3]]", `"a"`, "7", "true", "[]", "--a", "s + e"), madeExprs(7, 300)...) {
		roomy, cells := roomyBindings(usual), append(make([]impl.Cell, 0, 90), list...)
		got, ok := impl.Evaluate(cells, roomy)
		again, _ := impl.Evaluate(cells, roomy)
		want := slices.Clone(got)
		for at := range got {
			got[at] = changed
		}
		_ = append(got, slices.Repeat([]impl.Cell{changed}, 200)[:cap(got)-len(got)]...)
		if !slices.Equal(again, want) || !slices.Equal(cells, list) || !sameBindings(roomy, usual) {
			t.Fatalf("%s and its value %v became others with %s", shape(list), again, shortly(roomy))
		}
		if !slices.Equal(cells[:90][len(list):], make([]impl.Cell, 90-len(list))) {
			t.Errorf("something stands behind %s", shape(list))
		}
		for k, b := range roomy {
			if !slices.Equal(b.Value[:90][len(usual[k].Value):], make([]impl.Cell, 90-len(usual[k].Value))) {
				t.Errorf("something stands behind the value of %s", b.Name)
			}
		}
		if !sameBindings(roomy[:len(usual)+5][len(usual):], make([]impl.Binding, 5)) {
			t.Errorf("something stands behind the bindings")
		}
		// What is done with the arguments later does not change a value.
		for at := range cells {
			cells[at] = changed
		}
		for k := range roomy {
			for at := range roomy[k].Value {
				roomy[k].Value[at] = changed
			}
			roomy[k].Name = "changed"
		}
		if !slices.Equal(again, want) {
			t.Errorf("the value of %s became %v with its arguments", shape(list), again)
		}
		if settingOf(usual...).check(t, list) != ok {
			t.Errorf("%s has a value only once", shape(list))
		}
	}
}

// The same memory may be the value of several bindings, and the expression too.
func TestSharedArguments(t *testing.T) {
	list := tree(impl.CellList, "", tree(impl.CellList, ""), leaf(impl.CellNumber, "1"))
	s := settingOf(bind("x", list), bind("y", list), bind("z", list[1:2]), bind("w", list[2:]))
	for _, text := range []string{"x + y", "[x, y, z, w]", "x == y", "first(x) == z", "z + z", "w + w", "reverse(x)"} {
		if !s.check(t, written(text)) {
			t.Errorf("%s has no value", text)
		}
	}
	if got := s.value(t, list); !slices.Equal(got, list) {
		t.Errorf("the value of %v is %v", list, got)
	}
}
