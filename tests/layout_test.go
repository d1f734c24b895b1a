package tests

import (
	"bytes"
	"go/format"
	"go/parser"
	"go/token"
	"os"
	"path/filepath"
	"strings"
	"testing"
)

const allowedImports = " bytes cmp container/heap errors iter maps math math/bits slices sort strconv strings sync sync/atomic unicode unicode/utf8 "

func programFiles(t *testing.T) []string {
	files, err := filepath.Glob("../impl/*.go")
	if err != nil || len(files) == 0 {
		t.Fatal("no files of the program:", err)
	}
	return files
}

func TestLayout(t *testing.T) {
	for _, file := range programFiles(t) {
		text, err := os.ReadFile(file)
		if err != nil {
			t.Fatal(err)
		}
		laid, err := format.Source(text)
		if err != nil || !bytes.Equal(text, laid) {
			t.Error(file, "is not in gofmt's layout", err)
		}
	}
}

func TestImports(t *testing.T) {
	for _, file := range programFiles(t) {
		f, err := parser.ParseFile(token.NewFileSet(), file, nil, parser.ImportsOnly)
		if err != nil {
			t.Fatal(err)
		}
		for _, i := range f.Imports {
			if path := strings.Trim(i.Path.Value, "\"`"); !strings.Contains(allowedImports, " "+path+" ") {
				t.Error(file, "imports", path)
			}
		}
	}
}
