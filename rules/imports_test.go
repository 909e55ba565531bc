// Package rules_test holds what the program's files import against the first rule of the language: files beside the tests, of whatever package.
package rules_test

import (
	"go/ast"
	"go/parser"
	"go/token"
	"io/fs"
	"os"
	"path/filepath"
	"slices"
	"strconv"
	"strings"
	"testing"
)

// use: of a package of the library: which of its names may be used, if not all; and which may not.
type use struct{ only, not []string }

// listed: the packages of the library that may be imported.
func listed() map[string]use {
	return map[string]use{
		"bytes": {}, "cmp": {}, "container/heap": {}, "errors": {}, "maps": {}, "math": {}, "math/bits": {}, "slices": {}, "sort": {}, "strconv": {}, "strings": {}, "sync/atomic": {}, "unicode": {}, "unicode/utf8": {},
		"iter": {not: []string{"Pull", "Pull2"}},
		"sync": {only: []string{"Mutex", "RWMutex", "WaitGroup", "Once"}},
	}
}

// lets: whether that name of the package may be used.
func (u use) lets(name string) bool {
	return !slices.Contains(u.not, name) && (u.only == nil || slices.Contains(u.only, name))
}

// faults: what is found in the text of a file: imports that are not listed, and names of listed ones that may not be used.
func faults(file, text string) (found []string) {
	files := token.NewFileSet()
	f, err := parser.ParseFile(files, file, text, 0)
	if err != nil {
		return []string{err.Error()}
	}
	fault := func(at ast.Node, what string) {
		found = append(found, file+", line "+strconv.Itoa(files.Position(at.Pos()).Line)+": "+what)
	}
	uses := map[string]use{} // by the names that the file has for packages
	for _, i := range f.Imports {
		path, _ := strconv.Unquote(i.Path.Value)
		if path == "treadle" || strings.HasPrefix(path, "treadle/") {
			continue
		}
		u, is := listed()[path]
		name := path[strings.LastIndex(path, "/")+1:]
		if i.Name != nil {
			name = i.Name.Name
		}
		if !is || name == "." {
			fault(i, "imports "+path)
		}
		uses[name] = u
	}
	ast.Inspect(f, func(n ast.Node) bool {
		s, is := n.(*ast.SelectorExpr)
		if !is {
			return true
		}
		if x, is := s.X.(*ast.Ident); is && x.Obj == nil && !uses[x.Name].lets(s.Sel.Name) { // what the file declares itself has an Obj
			fault(s, "uses "+x.Name+"."+s.Sel.Name)
		}
		return true
	})
	return found
}

// program: the files of a tree that are no tests.
func program(root string) (all []string, err error) {
	err = filepath.WalkDir(root, func(path string, d fs.DirEntry, err error) error {
		switch {
		case err != nil:
			return err
		case d.IsDir() && d.Name() == ".git":
			return filepath.SkipDir
		case !d.IsDir() && strings.HasSuffix(path, ".go") && !strings.HasSuffix(path, "_test.go"):
			all = append(all, path)
		}
		return nil
	})
	return all, err
}

// TestImports: of all files of the checkout. (Without one, in a tree that may have files of others, it is not asked.)
func TestImports(t *testing.T) {
	root := os.Getenv("CHECKOUT")
	if root == "" {
		t.Skip("CHECKOUT does not say where the checkout is")
	}
	all, err := program(root)
	if err != nil || len(all) < 33 {
		t.Errorf("%d files: %v", len(all), err)
	}
	for _, path := range all {
		text, err := os.ReadFile(path)
		if err != nil {
			t.Error(err)
		}
		file, _ := filepath.Rel(root, path)
		for _, f := range faults(file, string(text)) {
			t.Errorf("rule 1: %s", f)
		}
	}
}

// TestFaults: what is found, and what is none.
func TestFaults(t *testing.T) {
	for src, want := range map[string]string{
		`package a`: "",
		`package a; import ("bytes"; "cmp"; "container/heap"; "errors"; "iter"; "maps"; "math"; "math/bits"; "slices"; "sort"; "strconv"; "strings"; "sync"; "sync/atomic"; "unicode"; "unicode/utf8")`: "",
		`package a; import ("treadle/api"; "treadle/cell"; x "treadle/aid")`: "",
		"package a\nimport \"time\"":                                         "a.go, line 2: imports time",
		"package a\nimport (\n\"strings\"\n\"runtime\"\n\"fmt\"\n)":          "a.go, line 4: imports runtime; a.go, line 5: imports fmt",
		"package a\nimport `os`":                                             "a.go, line 2: imports os",
		`package a; import _ "time"`:                                         "a.go, line 1: imports time",
		`package a; import strings "math/rand"`:                              "a.go, line 1: imports math/rand",
		`package a; import "C"`:                                              "a.go, line 1: imports C",
		`package a; import "unsafe"`:                                         "a.go, line 1: imports unsafe",
		`package a; import "treadles/cell"`:                                  "a.go, line 1: imports treadles/cell",
		`package a; import "golang.org/x/strings"`:                           "a.go, line 1: imports golang.org/x/strings",
		"//go:build never\n\npackage a\nimport \"time\"":                     "a.go, line 4: imports time",
		`package a; import . "sync"`:                                         "a.go, line 1: imports sync",
		`package a; import "sync"; var m sync.Mutex; var r sync.RWMutex; var w sync.WaitGroup; var o sync.Once`:    "",
		"package a\nimport \"sync\"\nvar c sync.Cond\nvar m sync.Map":                                              "a.go, line 3: uses sync.Cond; a.go, line 4: uses sync.Map",
		`package a; import s "sync"; var p = s.OnceFunc(nil)`:                                                      "a.go, line 1: uses s.OnceFunc",
		`package a; import "sync"; func f(sync struct{ Cond int }) int { return sync.Cond }; var m sync.Mutex`:     "",
		`package a; import "iter"; func f(s iter.Seq[int]) { iter.Pull(s); iter.Pull2(iter.Seq2[int, int](nil)) }`: "a.go, line 1: uses iter.Pull; a.go, line 1: uses iter.Pull2",
		`package a; import "sync/atomic"; var v atomic.Value; func f() { atomic.AddInt64(nil, 1) }`:                "",
		`package a; func f() { sync.Cond() }; var sync struct{ Cond func() }`:                                      "",
	} {
		if got := strings.Join(faults("a.go", src), "; "); got != want {
			t.Errorf("%s: %q, not %q", src, got, want)
		}
	}
	if got := faults("a.go", `package`); len(got) != 1 {
		t.Errorf("no file: %q", got)
	}
}

// TestProgram: the files of all folders, but tests.
func TestProgram(t *testing.T) {
	root := t.TempDir()
	for _, file := range []string{"a.go", "cell/b.go", "cell/b_test.go", "cell/.c.go", "deep/er/d.go", "test.go", "README.md", ".git/e.go"} {
		path := filepath.Join(root, filepath.FromSlash(file))
		if err := os.MkdirAll(filepath.Dir(path), 0o700); err != nil {
			t.Fatal(err)
		}
		if err := os.WriteFile(path, []byte("package a"), 0o600); err != nil {
			t.Fatal(err)
		}
	}
	all, err := program(root)
	for i, path := range all {
		rel, _ := filepath.Rel(root, path)
		all[i] = filepath.ToSlash(rel)
	}
	slices.Sort(all)
	if want := []string{"a.go", "cell/.c.go", "cell/b.go", "deep/er/d.go", "test.go"}; err != nil || !slices.Equal(all, want) {
		t.Errorf("%v, not %v: %v", all, want, err)
	}
	if _, err := program(filepath.Join(root, "none")); err == nil {
		t.Error("a tree that is none")
	}
}
