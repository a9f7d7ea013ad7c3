package tests

import (
	"bytes"
	"go/ast"
	"go/format"
	"go/parser"
	"go/token"
	"os"
	"path/filepath"
	"strings"
	"testing"
)

// What the program may import: the list of the language page.
const allowedImports = " bytes cmp container/heap errors iter maps math math/big math/bits slices sort strconv strings sync sync/atomic unicode unicode/utf8 "

const mostLines = 60

func programFiles(t *testing.T) []string {
	t.Helper()
	entries, err := os.ReadDir(filepath.Join("..", "impl"))
	if err != nil {
		t.Fatal(err)
	}
	var files []string
	for _, e := range entries {
		if !strings.HasSuffix(e.Name(), ".go") {
			t.Errorf("impl has a file that is no Go file: %s", e.Name())
			continue
		}
		files = append(files, filepath.Join("..", "impl", e.Name()))
	}
	return files
}

func TestProgramKeepsToTheLanguage(t *testing.T) {
	files := programFiles(t)
	if len(files) != 32 {
		t.Errorf("impl has %d files, not one for each of 32 layers", len(files))
	}
	for _, name := range files {
		text, err := os.ReadFile(name)
		if err != nil {
			t.Fatal(err)
		}
		laid, err := format.Source(text)
		if err != nil || !bytes.Equal(laid, text) {
			t.Errorf("%s is not in gofmt's layout", name)
		}
		fset := token.NewFileSet()
		file, err := parser.ParseFile(fset, name, text, parser.ParseComments)
		if err != nil {
			t.Fatal(err)
		}
		lookAtImports(t, name, file)
		lookAtComments(t, name, file)
		lookAtDecls(t, fset, name, file)
	}
}

func lookAtImports(t *testing.T, name string, file *ast.File) {
	for _, i := range file.Imports {
		if path := strings.Trim(i.Path.Value, `"`); !strings.Contains(allowedImports, " "+path+" ") {
			t.Errorf("%s imports %s", name, path)
		}
	}
}

func lookAtComments(t *testing.T, name string, file *ast.File) {
	for _, group := range file.Comments {
		for _, c := range group.List {
			if strings.HasPrefix(c.Text, "//go:") || strings.HasPrefix(c.Text, "// +build") {
				t.Errorf("%s has the line %s", name, c.Text)
			}
		}
	}
}

func lookAtDecls(t *testing.T, fset *token.FileSet, name string, file *ast.File) {
	for _, d := range file.Decls {
		switch x := d.(type) {
		case *ast.FuncDecl:
			lines := fset.Position(x.End()).Line - fset.Position(x.Pos()).Line + 1
			if lines > mostLines {
				t.Errorf("%s: %s has %d lines", name, x.Name.Name, lines)
			}
			if x.Recv == nil && x.Name.Name == "init" {
				t.Errorf("%s has an init", name)
			}
		case *ast.GenDecl:
			if x.Tok == token.VAR {
				lookAtVariables(t, name, x)
			}
		}
	}
}

// A variable at package level has a value that is written out, or is an error of one text.
func lookAtVariables(t *testing.T, name string, d *ast.GenDecl) {
	for _, s := range d.Specs {
		v := s.(*ast.ValueSpec)
		if len(v.Values) != len(v.Names) {
			t.Errorf("%s: %s has no value of its own", name, v.Names[0].Name)
		}
		for i, value := range v.Values {
			ast.Inspect(value, func(n ast.Node) bool {
				switch x := n.(type) {
				case *ast.MapType, *ast.FuncLit:
					t.Errorf("%s: %s is a map or a function", name, v.Names[i].Name)
				case *ast.CallExpr:
					if !isErrorsNew(x) {
						t.Errorf("%s: %s is made by a call", name, v.Names[i].Name)
					}
				}
				return true
			})
		}
	}
}

func isErrorsNew(x *ast.CallExpr) bool {
	s, ok := x.Fun.(*ast.SelectorExpr)
	if !ok {
		return false
	}
	p, ok := s.X.(*ast.Ident)
	return ok && p.Name == "errors" && s.Sel.Name == "New"
}
