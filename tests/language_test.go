package tests

import (
	"bytes"
	"go/ast"
	"go/format"
	"go/parser"
	"go/token"
	"os"
	"path/filepath"
	"strconv"
	"strings"
	"testing"
)

const allowedImports = " bytes cmp container/heap errors iter maps math math/bits slices sort strconv strings sync sync/atomic unicode unicode/utf8 "

// The text of the program keeps to ../shared/LANGUAGE.md, as far as it can be seen file by file.
func TestProgramKeepsToTheLanguage(t *testing.T) {
	paths, err := filepath.Glob("../impl/*")
	if err != nil || len(paths) == 0 {
		t.Fatal("no files of the program:", err)
	}
	for _, path := range paths {
		if !strings.HasSuffix(path, ".go") {
			t.Error(path, "is no Go file")
			continue
		}
		text, err := os.ReadFile(path)
		if err != nil {
			t.Fatal(err)
		}
		if tidy, err := format.Source(text); err != nil || !bytes.Equal(tidy, text) {
			t.Error(path, "has not gofmt's layout", err)
		}
		files := token.NewFileSet()
		file, err := parser.ParseFile(files, path, text, parser.ParseComments)
		if err != nil {
			t.Fatal(err)
		}
		checkImports(t, path, file)
		checkLengths(t, files, file)
		checkComments(t, path, file)
	}
}

func checkImports(t *testing.T, path string, file *ast.File) {
	for _, spec := range file.Imports {
		name, err := strconv.Unquote(spec.Path.Value)
		if err != nil || !strings.Contains(allowedImports, " "+name+" ") {
			t.Error(path, "imports", spec.Path.Value)
		}
	}
}

func checkLengths(t *testing.T, files *token.FileSet, file *ast.File) {
	for _, declared := range file.Decls {
		if f, ok := declared.(*ast.FuncDecl); ok {
			first, last := files.Position(f.Pos()), files.Position(f.End())
			if last.Line-first.Line >= 60 {
				t.Error(first, f.Name.Name, "has more than 60 lines")
			}
		}
	}
}

func checkComments(t *testing.T, path string, file *ast.File) {
	for _, group := range file.Comments {
		for _, c := range group.List {
			if strings.HasPrefix(c.Text, "//go:") || strings.HasPrefix(c.Text, "// +build") {
				t.Error(path, "has the directive", c.Text)
			}
		}
	}
}
