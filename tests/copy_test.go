package tests

import (
	"go/ast"
	"go/format"
	"go/parser"
	"go/token"
	"os"
	"os/exec"
	"path/filepath"
	"slices"
	"strings"
	"testing"
)

// Some answers cannot be had under the true hash. A test of them asks a copy of the program whose hash is another one.

// asksACopy runs one test on the copy; hash is the file with its Keccak256, which may call the true one as strongKeccak256.
func asksACopy(t *testing.T, hash, test string) {
	t.Helper()
	command := exec.Command("go", "test", "-vet=off", "-count=1", "-v", "-run", "^"+test+"$", "./tests")
	command.Dir = copyWithHash(t, hash)
	said, err := command.CombinedOutput()
	if err != nil {
		t.Fatal(err, string(said))
	}
	if strings.Contains(string(said), "--- SKIP") {
		t.Skip(string(said))
	}
}

// copyWithHash lays out the program and its tests with another hash in the true one's place.
func copyWithHash(t *testing.T, hash string) string {
	t.Helper()
	dir := t.TempDir()
	tests, err := filepath.Glob("*_test.go")
	if err != nil {
		t.Fatal(err)
	}
	for _, file := range slices.Concat(programFiles(t), tests, []string{"../go.mod"}) {
		text, err := os.ReadFile(file)
		if err != nil {
			t.Fatal(err)
		}
		if strings.HasPrefix(file, "../impl") {
			text = withoutTrueHash(t, text)
		}
		layFile(t, filepath.Join(dir, "tests", file), text)
	}
	layFile(t, filepath.Join(dir, "impl", "other_hash.go"), []byte(hash))
	return dir
}

func layFile(t *testing.T, place string, text []byte) {
	t.Helper()
	if err := os.MkdirAll(filepath.Dir(place), 0o755); err != nil {
		t.Fatal(err)
	}
	if err := os.WriteFile(place, text, 0o644); err != nil {
		t.Fatal(err)
	}
}

func withoutTrueHash(t *testing.T, text []byte) []byte {
	t.Helper()
	files := token.NewFileSet()
	file, err := parser.ParseFile(files, "", text, parser.ParseComments)
	if err != nil {
		t.Fatal(err)
	}
	for _, d := range file.Decls {
		if f, ok := d.(*ast.FuncDecl); ok && f.Name.Name == "Keccak256" {
			f.Name.Name = "strongKeccak256"
		}
	}
	var laid strings.Builder
	if err := format.Node(&laid, files, file); err != nil {
		t.Fatal(err)
	}
	return []byte(laid.String())
}
