package tests

import (
	"math/big"
	"math/rand"
	"regexp"
	"slices"
	"testing"

	"loop.example/configformatter/impl"
)

// signPatterns tells for every sign which values it takes, with the letters of callPatterns.
var signPatterns = map[string]*regexp.Regexp{
	"!": regexp.MustCompile(`\Ab\z`), "1-": regexp.MustCompile(`\An\z`), "==": regexp.MustCompile(`\A[nsbl]{2}\z`), "!=": regexp.MustCompile(`\A[nsbl]{2}\z`),
	"+": regexp.MustCompile(`\A(?:nn|ss|ll)\z`), "-": regexp.MustCompile(`\Ann\z`), "*": regexp.MustCompile(`\Ann\z`), "/": regexp.MustCompile(`\Ann\z`), "%": regexp.MustCompile(`\Ann\z`),
	"<": regexp.MustCompile(`\Ann\z`), "<=": regexp.MustCompile(`\Ann\z`), ">": regexp.MustCompile(`\Ann\z`), ">=": regexp.MustCompile(`\Ann\z`),
}

// roomOf returns how many cells a value of Go has, how deep it is, and whether all of it is in the limits.
func roomOf(v any) (int, int, bool) {
	switch v := v.(type) {
	case *big.Rat:
		_, ok := fractionOf(v)
		return 1, 1, ok
	case string:
		return 1, 1, len(v) <= 60
	case []any:
		cells, depth, fits := 1, 1, len(v) <= 8
		for _, part := range v {
			more, deep, ok := roomOf(part)
			cells, depth, fits = cells+more, max(depth, deep+1), fits && ok
		}
		return cells, depth, fits && cells <= 60 && depth <= 12
	}
	return 1, 1, true
}

// expectedCalculation returns what a sign makes of two numbers; nil if it makes nothing of them.
func expectedCalculation(sign string, a *big.Rat, b *big.Rat) any {
	r := new(big.Rat)
	switch sign {
	case "+":
		return r.Add(a, b)
	case "-":
		return r.Sub(a, b)
	case "*":
		return r.Mul(a, b)
	case "/":
		if b.Sign() != 0 {
			return r.Quo(a, b)
		}
	case "%":
		if a.IsInt() && b.IsInt() && b.Sign() > 0 {
			return r.SetInt(new(big.Int).Mod(a.Num(), b.Num()))
		}
	case "<":
		return a.Cmp(b) < 0
	case "<=":
		return a.Cmp(b) <= 0
	case ">":
		return a.Cmp(b) > 0
	case ">=":
		return a.Cmp(b) >= 0
	}
	return nil
}

// expectedSign returns what a sign makes of values of Go, of which none is missing; nil if it makes nothing of them.
func expectedSign(sign string, parts []any) any {
	if len(parts) == 1 && sign == "-" {
		sign = "1-"
	}
	if !signPatterns[sign].MatchString(kindsOf(parts)) {
		return nil
	}
	switch sign {
	case "!":
		return !parts[0].(bool)
	case "1-":
		return expectedCalculation("-", new(big.Rat), parts[0].(*big.Rat))
	case "==":
		return textOfValue(parts[0]) == textOfValue(parts[1])
	case "!=":
		return textOfValue(parts[0]) != textOfValue(parts[1])
	}
	switch a := parts[0].(type) {
	case string:
		return a + parts[1].(string)
	case []any:
		return slices.Concat([]any{}, a, parts[1].([]any))
	}
	return expectedCalculation(sign, parts[0].(*big.Rat), parts[1].(*big.Rat))
}

// expectedTruth returns what && and || make of values of Go that may be missing, by a table of what stands at both sides.
func expectedTruth(sign string, parts []any) any {
	letter := func(v any) string {
		if b, ok := v.(bool); ok && b {
			return "t"
		} else if ok {
			return "f"
		}
		return "-"
	}
	table := map[string]any{"&&tt": true, "&&tf": false, "&&ft": false, "&&ff": false, "&&f-": false, "||tt": true, "||tf": true, "||t-": true, "||ft": true, "||ff": false}
	return table[sign+letter(parts[0])+letter(parts[1])]
}

// expectedResult returns what a cell makes of the values of its parts, of which those that have no value are nil; nil if it makes nothing of them.
func expectedResult(c impl.Cell, parts []any, bound map[string]any) any {
	switch {
	case c.Kind == impl.CellName:
		return bound[c.Word]
	case c.Kind == impl.CellChoice && parts[0] == true:
		return parts[1]
	case c.Kind == impl.CellChoice && parts[0] == false:
		return parts[2]
	case c.Word == "&&" && c.Kind == impl.CellBinary, c.Word == "||" && c.Kind == impl.CellBinary:
		return expectedTruth(c.Word, parts)
	case c.Kind == impl.CellChoice, slices.Contains(parts, nil):
		return nil
	case c.Kind == impl.CellList:
		return slices.Concat([]any{}, parts)
	case c.Kind == impl.CellCall:
		return expectedCall(c.Word, parts)
	case c.Kind == impl.CellUnary, c.Kind == impl.CellBinary:
		return expectedSign(c.Word, parts)
	}
	v, _ := meaning([]impl.Cell{c})
	return v
}

// setting is where expressions are evaluated: bindings, a copy of them, and their values of Go; these are nil for invalid bindings.
type setting struct {
	env, before []impl.Binding
	bound       map[string]any
}

// settingOf returns the setting of bindings.
func settingOf(env ...impl.Binding) setting {
	s := setting{env: env, before: clonedBindings(env), bound: map[string]any{}}
	for _, b := range env {
		v, ok := meaning(b.Value)
		_, twice := s.bound[b.Name]
		if !ok || twice || len(env) > 30 || !namePattern.MatchString(b.Name) || b.Name == "true" || b.Name == "false" {
			return setting{env: env, before: s.before}
		}
		s.bound[b.Name] = v
	}
	return s
}

// expectedValue evaluates all cells from the last one to the first one, also those that are not looked at, and returns the cells of the value; nil if there is none.
func (s setting) expectedValue(list []impl.Cell) []impl.Cell {
	spans := expectedSpans(list)
	if spans == nil || s.bound == nil {
		return nil
	}
	values := make([]any, len(list))
	for at := len(list) - 1; at >= 0; at-- {
		var parts []any
		for _, part := range spans[at].parts {
			parts = append(parts, values[part])
		}
		v := expectedResult(list[at], parts, s.bound)
		if _, _, fits := roomOf(v); fits {
			values[at] = v
		}
	}
	if values[0] == nil {
		return nil
	}
	return cellsOf(values[0])
}

func bind(name string, value []impl.Cell) impl.Binding {
	return impl.Binding{Name: name, Value: value}
}

// clonedBindings returns bindings of their own memory.
func clonedBindings(env []impl.Binding) []impl.Binding {
	copies := slices.Clone(env)
	for k := range copies {
		copies[k].Value = slices.Clone(env[k].Value)
	}
	return copies
}

func sameBindings(a, b []impl.Binding) bool {
	return slices.EqualFunc(a, b, func(x, y impl.Binding) bool { return x.Name == y.Name && slices.Equal(x.Value, y.Value) })
}

// check compares the value of an expression with what is expected, and looks whether the cells and the bindings stay. It returns whether there is a value.
func (s setting) check(t *testing.T, list []impl.Cell) bool {
	t.Helper()
	before, want := slices.Clone(list), s.expectedValue(list)
	got, ok := impl.Evaluate(list, s.env)
	if !slices.Equal(got, want) || ok != (want != nil) {
		t.Fatalf("the value of %s with %d bindings %s is %s, %v, not %s", shortly(list), len(s.env), shortly(s.env), shortly(got), ok, shortly(want))
	}
	if !slices.Equal(list, before) || !sameBindings(s.env, s.before) {
		t.Fatalf("%s became %s with bindings that became %s", shortly(before), shortly(list), shortly(s.env))
	}
	return ok
}

// value returns the value of an expression that must have one.
func (s setting) value(t *testing.T, list []impl.Cell) []impl.Cell {
	t.Helper()
	v, ok := impl.Evaluate(list, s.env)
	if !ok || !impl.ValueValid(v) {
		t.Fatalf("the value of %s is %s, %v", shortly(list), shortly(v), ok)
	}
	return v
}

// written returns the expression that a text stands for, which must be one.
func written(s string) []impl.Cell {
	list := expectedExpr(s)
	if list == nil {
		panic(s)
	}
	return list
}

func writtenAll(texts ...string) [][]impl.Cell {
	var list [][]impl.Cell
	for _, s := range texts {
		list = append(list, written(s))
	}
	return list
}

// usualBindings returns bindings of values of every kind; u and v are not among them, and also no other names that begin or end like theirs.
func usualBindings() []impl.Binding {
	third, two, five := leaf(impl.CellNumber, "-1/3"), leaf(impl.CellNumber, "2"), leaf(impl.CellNumber, "-5")
	word, truth := leaf(impl.CellText, "ab"), leaf(impl.CellTruth, "true")
	return []impl.Binding{
		bind("a", two), bind("b", third), bind("s", word), bind("t", truth), bind("f", leaf(impl.CellTruth, "false")),
		bind("l", tree(impl.CellList, "")), bind("m", tree(impl.CellList, "", two, word)), bind("n", tree(impl.CellList, "", tree(impl.CellList, "", truth), five)),
		bind("five", five), bind("half", leaf(impl.CellNumber, "0.5")), bind("zero", leaf(impl.CellNumber, "0")), bind("e", leaf(impl.CellText, "")),
		bind("srv.port", leaf(impl.CellNumber, "8080")), bind("srv.port.x", leaf(impl.CellText, "deep")), bind("true.a", leaf(impl.CellNumber, "7")), bind("length", leaf(impl.CellNumber, "1")),
	}
}

// form is a way to make a value of a kind of others: a cell, and the letters of the kinds of its parts, where x is any kind.
type form struct {
	cell  impl.Cell
	parts string
}

// formsOf returns the ways to make values of every kind.
func formsOf() map[byte][]form {
	forms := map[byte][]form{}
	add := func(result byte, kind int, word string, parts ...string) {
		for _, p := range parts {
			forms[result] = append(forms[result], form{impl.Cell{Kind: kind, Word: word, Many: len(p)}, p})
		}
	}
	for _, sign := range []string{"+", "-", "*", "/", "%", "+", "-"} {
		add('n', impl.CellBinary, sign, "nn")
	}
	for _, sign := range []string{"<", "<=", ">", ">="} {
		add('b', impl.CellBinary, sign, "nn")
	}
	for _, sign := range []string{"==", "!="} {
		add('b', impl.CellBinary, sign, "nn", "ss", "bb", "ll", "xx")
	}
	add('n', impl.CellUnary, "-", "n", "n")
	add('b', impl.CellUnary, "!", "b", "b")
	add('b', impl.CellBinary, "&&", "bb", "bb")
	add('b', impl.CellBinary, "||", "bb", "bb")
	add('s', impl.CellBinary, "+", "ss", "ss")
	add('l', impl.CellBinary, "+", "ll", "ll")
	add('l', impl.CellList, "", "", "x", "xx", "nns", "lxx", "xxxx")
	for _, kind := range []byte("nsbl") {
		add(kind, impl.CellChoice, "", "b"+string(kind)+string(kind), "b"+string(kind)+string(kind))
	}
	add('n', impl.CellCall, "length", "s", "l")
	add('n', impl.CellCall, "min", "n", "nn")
	add('n', impl.CellCall, "max", "nnn")
	add('s', impl.CellCall, "upper", "s")
	add('s', impl.CellCall, "lower", "s")
	add('s', impl.CellCall, "join", "ls")
	add('l', impl.CellCall, "reverse", "l")
	add('b', impl.CellCall, "contains", "lx", "ln")
	return forms
}

// exprMaker makes expressions most of which have a value with the usual bindings.
type exprMaker struct {
	r      *rand.Rand
	forms  map[byte][]form
	leaves map[byte][][]impl.Cell
}

func newMaker(seed int64) exprMaker {
	return exprMaker{rand.New(rand.NewSource(seed)), formsOf(), map[byte][][]impl.Cell{
		'n': writtenAll("0", "1", "2", "3", "7", "0.5", "1.25", "a", "b", "five", "half", "zero", "srv.port", "true.a", "length"),
		's': writtenAll(`""`, `"x"`, `"aB"`, `"\n"`, "s", "e", "srv.port.x"),
		'b': writtenAll("true", "false", "t", "f"),
		'l': writtenAll("[]", "l", "m", "n"),
	}}
}

// expr returns an expression of a kind, of at most so many cells and at most that depth; only sometimes one of another kind, or a name without a binding.
func (m exprMaker) expr(kind byte, cells int, depth int) []impl.Cell {
	if kind == 'x' || m.r.Intn(60) == 0 {
		kind = "nsbl"[m.r.Intn(4)]
	}
	if m.r.Intn(100) == 0 {
		return leaf(impl.CellName, "u")
	}
	f := m.forms[kind][m.r.Intn(len(m.forms[kind]))]
	if depth == 1 || cells < len(f.parts)+1 || m.r.Intn(8) == 0 {
		return m.leaves[kind][m.r.Intn(len(m.leaves[kind]))]
	}
	list, left := []impl.Cell{f.cell}, cells-1
	for k, part := range []byte(f.parts) {
		// Every further part needs at least one cell.
		cells := m.expr(part, left-(len(f.parts)-1-k), depth-1)
		left -= len(cells)
		list = append(list, cells...)
	}
	return list
}

// madeExprs returns expressions of all kinds and sizes.
func madeExprs(seed int64, many int) [][]impl.Cell {
	m := newMaker(seed)
	var list [][]impl.Cell
	for k := range many {
		list = append(list, m.expr('x', 1+m.r.Intn(impl.MaxCells), 2+k%(impl.MaxDepth-1)))
	}
	return list
}
