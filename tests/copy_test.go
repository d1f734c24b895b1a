package tests

import (
	"go/ast"
	"go/format"
	"go/parser"
	"go/token"
	"os"
	"os/exec"
	"path/filepath"
	"slices"
	"strings"
	"testing"
)

// Some answers cannot be had under the true hash, or not be held against what the program does inside. A test of them asks a copy of the program of which some functions are others.

// asksACopy runs one test on a copy of another hash: the file with its Keccak256, which may call the true one as strongKeccak256.
func asksACopy(t *testing.T, hash, test string) {
	t.Helper()
	asksACopyWith(t, map[string]string{"Keccak256": "strongKeccak256"}, hash, test)
}

// asksACopyWith runs one test on a copy with another file, whose functions stand in the places of those that are renamed.
func asksACopyWith(t *testing.T, renamed map[string]string, other, test string) {
	t.Helper()
	command := exec.Command("go", "test", "-vet=off", "-count=1", "-v", "-run", "^"+test+"$", "./tests")
	command.Dir = copyWith(t, renamed, other)
	said, err := command.CombinedOutput()
	if err != nil {
		t.Fatal(err, string(said))
	}
	if strings.Contains(string(said), "--- SKIP") {
		t.Skip(string(said))
	}
}

// copyWith lays out the program and its tests with another file beside it.
func copyWith(t *testing.T, renamed map[string]string, other string) string {
	t.Helper()
	dir := t.TempDir()
	tests, err := filepath.Glob("*_test.go")
	if err != nil {
		t.Fatal(err)
	}
	for _, file := range slices.Concat(programFiles(t), tests, []string{"../go.mod"}) {
		text, err := os.ReadFile(file)
		if err != nil {
			t.Fatal(err)
		}
		if strings.HasPrefix(file, "../impl") {
			text = withRenamed(t, renamed, text)
		}
		layFile(t, filepath.Join(dir, "tests", file), text)
	}
	layFile(t, filepath.Join(dir, "impl", "other.go"), []byte(other))
	return dir
}

func layFile(t *testing.T, place string, text []byte) {
	t.Helper()
	if err := os.MkdirAll(filepath.Dir(place), 0o755); err != nil {
		t.Fatal(err)
	}
	if err := os.WriteFile(place, text, 0o644); err != nil {
		t.Fatal(err)
	}
}

// withRenamed is a file with other names of functions where they are declared; whoever calls them calls the other file's.
func withRenamed(t *testing.T, renamed map[string]string, text []byte) []byte {
	t.Helper()
	files := token.NewFileSet()
	file, err := parser.ParseFile(files, "", text, parser.ParseComments)
	if err != nil {
		t.Fatal(err)
	}
	for _, d := range file.Decls {
		if f, ok := d.(*ast.FuncDecl); ok && renamed[f.Name.Name] != "" {
			f.Name.Name = renamed[f.Name.Name]
		}
	}
	var laid strings.Builder
	if err := format.Node(&laid, files, file); err != nil {
		t.Fatal(err)
	}
	return []byte(laid.String())
}
