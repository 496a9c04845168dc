// Package checks holds the program's source against the rules of its language (shared/LANGUAGE.md), as far as its text shows them.
package checks

import (
	"bytes"
	"go/ast"
	"go/format"
	"go/parser"
	"go/token"
	"io/fs"
	"os"
	"path/filepath"
	"strconv"
	"strings"
	"testing"
)

const root = ".."

// Rule 1: what may be imported beside the program's own packages.
const library = " bytes cmp container/heap errors iter maps math math/bits slices sort strconv strings sync sync/atomic unicode unicode/utf8 "

// Rule 9 says some 60 lines.
const longest = 60

// files: all of the program, without tests.
func files(t *testing.T) []string {
	var l []string
	err := filepath.WalkDir(root, func(path string, d fs.DirEntry, err error) error {
		switch {
		case err != nil:
			return err
		case d.IsDir() && path != root && (strings.HasPrefix(d.Name(), ".") || d.Name() == "sharedtests"):
			return filepath.SkipDir
		case !d.IsDir() && filepath.Dir(path) != root && !strings.HasSuffix(path, ".go"):
			t.Errorf("%s: a file that is no Go", path)
		case strings.HasSuffix(path, ".go") && !strings.HasSuffix(path, "_test.go"):
			l = append(l, path)
		}
		return nil
	})
	if err != nil || len(l) < 30 {
		t.Fatal(err, len(l), "files")
	}
	return l
}

func TestLanguage(t *testing.T) {
	for _, path := range files(t) {
		src, err := os.ReadFile(path)
		if err != nil {
			t.Fatal(err)
		}
		if laid, err := format.Source(src); err != nil || !bytes.Equal(laid, src) {
			t.Errorf("%s: not laid out by gofmt: %v", path, err)
		}
		set := token.NewFileSet()
		f, err := parser.ParseFile(set, path, src, parser.ParseComments)
		if err != nil {
			t.Fatal(err)
		}
		checkImports(t, path, f)
		checkRemarks(t, path, f)
		for _, d := range f.Decls {
			switch d := d.(type) {
			case *ast.FuncDecl:
				if n := set.Position(d.End()).Line - set.Position(d.Pos()).Line + 1; n > longest {
					t.Errorf("%s: %s has %d lines", path, d.Name.Name, n)
				}
			case *ast.GenDecl:
				checkVariables(t, path, d)
			}
		}
	}
}

func checkImports(t *testing.T, path string, f *ast.File) {
	for _, i := range f.Imports {
		name, _ := strconv.Unquote(i.Path.Value)
		if !strings.HasPrefix(name, "towpath/") && !strings.Contains(library, " "+name+" ") {
			t.Errorf("%s: imports %s", path, name)
		}
	}
}

func checkRemarks(t *testing.T, path string, f *ast.File) {
	for _, g := range f.Comments {
		for _, c := range g.List {
			if strings.HasPrefix(c.Text, "//go:") || strings.HasPrefix(c.Text, "// +build") {
				t.Errorf("%s: %s", path, c.Text)
			}
		}
	}
}

// checkVariables: rules 3a and 3b on what stands at package level.
func checkVariables(t *testing.T, path string, d *ast.GenDecl) {
	if d.Tok != token.VAR {
		return
	}
	for _, s := range d.Specs {
		v := s.(*ast.ValueSpec)
		name := v.Names[0].Name
		if len(v.Values) != len(v.Names) {
			t.Errorf("%s: %s has no value of its own", path, name)
		}
		for _, x := range v.Values {
			ast.Inspect(x, func(n ast.Node) bool {
				switch n := n.(type) {
				case *ast.CallExpr:
					if f, ok := n.Fun.(*ast.SelectorExpr); !ok || f.Sel.Name != "New" {
						t.Errorf("%s: %s is made by a call", path, name)
					}
				case *ast.MapType, *ast.FuncLit, *ast.FuncType:
					t.Errorf("%s: %s has a map or a function", path, name)
				}
				return true
			})
		}
	}
}
