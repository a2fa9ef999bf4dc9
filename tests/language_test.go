package tests

import (
	"bytes"
	"go/ast"
	"go/format"
	"go/parser"
	"go/token"
	"os"
	"path/filepath"
	"slices"
	"strconv"
	"strings"
	"testing"
)

// allowedImports are those of ../shared/LANGUAGE.md.
var allowedImports = []string{
	"bytes", "cmp", "container/heap", "errors", "iter", "maps", "math", "math/bits", "slices", "sort",
	"strconv", "strings", "sync", "sync/atomic", "unicode", "unicode/utf8",
}

// mostLines is how long a function may be.
const mostLines = 60

func checkImports(t *testing.T, path string, file *ast.File) {
	for _, i := range file.Imports {
		name, err := strconv.Unquote(i.Path.Value)
		if err != nil || !slices.Contains(allowedImports, name) {
			t.Errorf("%s imports %s", path, i.Path.Value)
		}
	}
}

func checkComments(t *testing.T, path string, file *ast.File) {
	for _, group := range file.Comments {
		for _, c := range group.List {
			if strings.HasPrefix(c.Text, "//go:") || strings.HasPrefix(c.Text, "// +build") {
				t.Errorf("%s has the directive %s", path, c.Text)
			}
		}
	}
}

func checkLengths(t *testing.T, path string, set *token.FileSet, file *ast.File) {
	for _, d := range file.Decls {
		f, ok := d.(*ast.FuncDecl)
		if !ok {
			continue
		}
		n := set.Position(f.End()).Line - set.Position(f.Pos()).Line + 1
		if n > mostLines {
			t.Errorf("%s: %s has %d lines", path, f.Name.Name, n)
		}
	}
}

// The program keeps to what a look at its files alone can tell of ../shared/LANGUAGE.md.
func TestLanguage(t *testing.T) {
	entries, err := os.ReadDir("../impl")
	if err != nil || len(entries) == 0 {
		t.Fatal(entries, err)
	}
	for _, e := range entries {
		path := filepath.Join("../impl", e.Name())
		if filepath.Ext(path) != ".go" {
			t.Errorf("%s is no Go file", path)
			continue
		}
		source, err := os.ReadFile(path)
		if err != nil {
			t.Fatal(err)
		}
		if laid, err := format.Source(source); err != nil || !bytes.Equal(laid, source) {
			t.Errorf("%s has not gofmt's layout: %v", path, err)
		}
		set := token.NewFileSet()
		file, err := parser.ParseFile(set, path, source, parser.ParseComments)
		if err != nil {
			t.Fatal(err)
		}
		checkImports(t, path, file)
		checkComments(t, path, file)
		checkLengths(t, path, set, file)
	}
}
