package tests

import (
	"go/ast"
	"go/format"
	"go/parser"
	"go/token"
	"os"
	"path/filepath"
	"strings"
	"testing"
)

const allowedImports = " bytes cmp container/heap errors iter maps math math/bits slices sort strconv strings sync sync/atomic unicode unicode/utf8 "

// What the language page asks of a file that can be seen in its text: gofmt's layout, what is imported, and how long functions are.
func TestFilesKeepToTheLanguage(t *testing.T) {
	files, err := filepath.Glob("../impl/*")
	if err != nil || len(files) != 8 {
		t.Fatal(files, err)
	}
	for _, name := range files {
		source, err := os.ReadFile(name)
		if err != nil {
			t.Fatal(err)
		}
		if laid, err := format.Source(source); err != nil || string(laid) != string(source) {
			t.Errorf("%s: not in gofmt's layout: %v", name, err)
		}
		set := token.NewFileSet()
		file, err := parser.ParseFile(set, name, source, 0)
		if err != nil {
			t.Fatal(err)
		}
		for _, i := range file.Imports {
			if path := strings.Trim(i.Path.Value, `"`); !strings.Contains(allowedImports, " "+path+" ") {
				t.Errorf("%s: imports %s", name, path)
			}
		}
		for _, d := range file.Decls {
			f, ok := d.(*ast.FuncDecl)
			if ok && set.Position(f.End()).Line-set.Position(f.Pos()).Line >= 60 {
				t.Errorf("%s: %s is too long", name, f.Name.Name)
			}
		}
	}
}
