package tests

import (
	"fmt"
	"math/big"
	"regexp"
	"slices"
	"strings"
	"testing"

	"loop.example/configformatter/impl"
)

// callPatterns tells for every function which values it takes, as one letter for each: n for a number, s for a text, b for a truth and l for a list.
var callPatterns = map[string]*regexp.Regexp{
	"length":   regexp.MustCompile(`\A[sl]\z`),
	"upper":    regexp.MustCompile(`\As\z`),
	"lower":    regexp.MustCompile(`\As\z`),
	"min":      regexp.MustCompile(`\An+\z`),
	"max":      regexp.MustCompile(`\An+\z`),
	"first":    regexp.MustCompile(`\Al\z`),
	"reverse":  regexp.MustCompile(`\Al\z`),
	"contains": regexp.MustCompile(`\Al[nsbl]\z`),
	"join":     regexp.MustCompile(`\Als\z`),
}

// functionNames returns the names of all functions.
func functionNames() []string {
	return []string{"length", "upper", "lower", "min", "max", "first", "reverse", "contains", "join"}
}

// kindsOf returns the letters of values of Go.
func kindsOf(args []any) string {
	s := ""
	for _, v := range args {
		switch v.(type) {
		case *big.Rat:
			s += "n"
		case string:
			s += "s"
		case bool:
			s += "b"
		case []any:
			s += "l"
		}
	}
	return s
}

// otherCase returns a text in which every letter of one row has become the one at the same place of the other row.
func otherCase(s string, from string, to string) string {
	changed := []byte(s)
	for k, b := range changed {
		if at := strings.IndexByte(from, b); at >= 0 {
			changed[k] = to[at]
		}
	}
	return string(changed)
}

// expectedJoin returns the joined text of a list; nil if it has parts that are no texts.
func expectedJoin(list []any, between string) any {
	if !regexp.MustCompile(`\As*\z`).MatchString(kindsOf(list)) {
		return nil
	}
	s := ""
	for k, part := range list {
		if k > 0 {
			s += between
		}
		s += part.(string)
	}
	return s
}

// expectedCall returns what a function makes of values of Go; nil if it makes nothing of them. The result may be no value.
func expectedCall(name string, args []any) any {
	pattern := callPatterns[name]
	if pattern == nil || !pattern.MatchString(kindsOf(args)) {
		return nil
	}
	text, _ := args[0].(string)
	list, _ := args[0].([]any)
	small, large := "abcdefghijklmnopqrstuvwxyz", "ABCDEFGHIJKLMNOPQRSTUVWXYZ"
	switch name {
	case "length":
		// One of both is empty.
		return big.NewRat(int64(len(text)+len(list)), 1)
	case "upper":
		return otherCase(text, small, large)
	case "lower":
		return otherCase(text, large, small)
	case "min", "max":
		sorted := slices.Clone(args)
		slices.SortFunc(sorted, func(a, b any) int { return a.(*big.Rat).Cmp(b.(*big.Rat)) })
		if name == "min" {
			return sorted[0]
		}
		return sorted[len(sorted)-1]
	case "first":
		// In a list without parts there is no first one, and here a nil.
		return append(slices.Clip(list), nil)[0]
	case "reverse":
		reversed := []any{}
		for _, part := range list {
			reversed = append([]any{part}, reversed...)
		}
		return reversed
	case "contains":
		found := false
		for _, part := range list {
			found = found || textOfValue(part) == textOfValue(args[1])
		}
		return found
	}
	return expectedJoin(list, args[1].(string))
}

// expectedCells returns the cells of what a function makes of cells; nil if it makes nothing of them.
func expectedCells(name string, list [][]impl.Cell) []impl.Cell {
	args := []any{}
	for _, cells := range list {
		v, ok := meaning(cells)
		if !ok {
			return nil
		}
		args = append(args, v)
	}
	v := expectedCall(name, args)
	if v == nil {
		return nil
	}
	cells := cellsOf(v)
	if _, ok := meaning(cells); !ok {
		return nil
	}
	return cells
}

// cloned returns lists of cells of their own memory.
func cloned(list [][]impl.Cell) [][]impl.Cell {
	copies := slices.Clone(list)
	for k, cells := range list {
		copies[k] = slices.Clone(cells)
	}
	return copies
}

func sameLists(a, b [][]impl.Cell) bool {
	return slices.EqualFunc(a, b, slices.Equal[[]impl.Cell])
}

// shortly returns the beginning of what a value of Go looks like; some lists are too long to be written whole for every failure.
func shortly(v any) string {
	s := fmt.Sprintf("%.80v", v)
	return s[:min(len(s), 300)]
}

// checkCall compares the result of a call with what is expected, and looks whether the values stay. It returns whether there is a result.
func checkCall(t *testing.T, name string, list ...[]impl.Cell) bool {
	t.Helper()
	before, want := cloned(list), expectedCells(name, list)
	got, ok := impl.CallFunction(name, list)
	if !slices.Equal(got, want) || ok != (want != nil) {
		t.Fatalf("%.80q of %d values %s is %s, %v, not %s", name, len(list), shortly(list), shortly(got), ok, shortly(want))
	}
	if !sameLists(list, before) {
		t.Fatalf("%.80q changed %s to %s", name, shortly(before), shortly(list))
	}
	return ok
}

// called returns the result of a call that must have one.
func called(t *testing.T, name string, list ...[]impl.Cell) []impl.Cell {
	t.Helper()
	v, ok := impl.CallFunction(name, list)
	if !ok || !impl.ValueValid(v) {
		t.Fatalf("%s of %s is %s, %v", name, shortly(list), shortly(v), ok)
	}
	return v
}

// refused fails if a call has a result.
func refused(t *testing.T, name string, list ...[]impl.Cell) {
	t.Helper()
	if v, ok := impl.CallFunction(name, list); ok || v != nil {
		t.Fatalf("%.80q of %d values %s is %s, %v", name, len(list), shortly(list), shortly(v), ok)
	}
}

// number returns the number that a word stands for, for lists of Go.
func number(word string) *big.Rat {
	r, _ := new(big.Rat).SetString(word)
	return r
}

// listsOf returns those values of some that are lists.
func listsOf(values [][]impl.Cell) [][]impl.Cell {
	return slices.DeleteFunc(values, func(v []impl.Cell) bool { return v[0].Kind != impl.CellList })
}
