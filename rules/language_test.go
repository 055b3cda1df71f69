package rules

import (
	"bytes"
	"go/ast"
	"go/format"
	"go/parser"
	"go/token"
	"io/fs"
	"os"
	"path/filepath"
	"strconv"
	"strings"
	"testing"
)

// library: what of Go's library the program may import; where names follow a path, only these of it.
var library = map[string]string{
	"bytes":          "",
	"cmp":            "",
	"container/heap": "",
	"errors":         "",
	"iter":           "Seq Seq2",
	"maps":           "",
	"math":           "",
	"math/bits":      "",
	"slices":         "",
	"sort":           "",
	"strconv":        "",
	"strings":        "",
	"sync":           "Mutex RWMutex WaitGroup Once",
	"sync/atomic":    "",
	"unicode":        "",
	"unicode/utf8":   "",
}

// TestLanguage: every file of the program is plain Go, laid out by gofmt, and imports no more than it may.
func TestLanguage(t *testing.T) {
	files := programFiles(t)
	if len(files) == 0 {
		t.Fatal("there is no file of the program")
	}
	for _, name := range files {
		text, err := os.ReadFile(name)
		if err != nil {
			t.Fatal(err)
		}
		laid, err := format.Source(text)
		if err != nil || !bytes.Equal(laid, text) {
			t.Errorf("%s: not as gofmt lays it out (%v)", name, err)
		}
		tree, err := parser.ParseFile(token.NewFileSet(), name, text, parser.ParseComments)
		if err != nil {
			t.Errorf("%s: %v", name, err)
			continue
		}
		for _, fault := range append(directives(tree), imports(tree)...) {
			t.Errorf("%s: %s", name, fault)
		}
	}
}

// programFiles are all files in the folders of the program's packages, but the tests. The root is passed over, for it has no package.
func programFiles(t *testing.T) []string {
	var out []string
	err := filepath.WalkDir("..", func(path string, d fs.DirEntry, err error) error {
		if err != nil {
			return err
		}
		if d.IsDir() {
			name := d.Name()
			if name == "sharedtests" || strings.HasPrefix(name, ".") && name != ".." {
				return filepath.SkipDir
			}
			return nil
		}
		if filepath.Dir(path) == ".." || strings.HasSuffix(path, "_test.go") {
			return nil
		}
		if !strings.HasSuffix(path, ".go") {
			t.Errorf("%s: not a Go file", path)
			return nil
		}
		out = append(out, path)
		return nil
	})
	if err != nil {
		t.Fatal(err)
	}
	return out
}

func directives(tree *ast.File) []string {
	var out []string
	for _, group := range tree.Comments {
		for _, c := range group.List {
			if strings.HasPrefix(c.Text, "//go:") || strings.HasPrefix(c.Text, "// +build") {
				out = append(out, c.Text)
			}
		}
	}
	return out
}

func imports(tree *ast.File) []string {
	var out []string
	only := map[string]string{}
	for _, spec := range tree.Imports {
		path, _ := strconv.Unquote(spec.Path.Value)
		names, ok := library[path]
		if !ok && !strings.HasPrefix(path, "besom/") {
			out = append(out, "imports "+path)
		}
		if names == "" {
			continue
		}
		if spec.Name != nil {
			out = append(out, "imports "+path+" by another name")
		}
		only[path] = names
	}
	ast.Inspect(tree, func(n ast.Node) bool {
		selector, ok := n.(*ast.SelectorExpr)
		if !ok {
			return true
		}
		from, ok := selector.X.(*ast.Ident)
		if !ok || only[from.Name] == "" {
			return true
		}
		if !strings.Contains(" "+only[from.Name]+" ", " "+selector.Sel.Name+" ") {
			out = append(out, "uses "+from.Name+"."+selector.Sel.Name)
		}
		return true
	})
	return out
}
