package rules

import (
	"bytes"
	"go/ast"
	"go/format"
	"go/parser"
	"go/token"
	"io/fs"
	"os"
	"path/filepath"
	"slices"
	"strconv"
	"strings"
	"testing"
)

// layers stand in the document's order: a layer calls only those ahead of it.
var layers = []string{"api", "arena", "class", "item", "hash", "table", "queue", "tide", "lru", "crawl", "store", "words", "line", "reply", "meta", "count", "serve", "shard", "warm", "ring", "client", "route"}

var library = []string{"bytes", "cmp", "container/heap", "errors", "iter", "maps", "math", "math/big", "math/bits", "slices", "sort", "strconv", "strings", "sync", "sync/atomic", "unicode", "unicode/utf8"}

var ofSync = []string{"Mutex", "RWMutex", "WaitGroup", "Once"}

// maxLines is what a function may have ("some 60").
const maxLines = 60

type source struct {
	path, layer string
	text        []byte
	set         *token.FileSet
	file        *ast.File
}

// sources are the program's Go files, the tests left out.
func sources(t *testing.T) []source {
	t.Helper()
	var found []source
	err := filepath.WalkDir("..", func(path string, d fs.DirEntry, err error) error {
		if err != nil {
			return err
		}
		if d.IsDir() {
			if path != ".." && strings.HasPrefix(d.Name(), ".") || d.Name() == "sharedtests" {
				return fs.SkipDir
			}
			return nil
		}
		if filepath.Dir(path) == ".." || strings.HasSuffix(path, "_test.go") {
			return nil
		}
		if !strings.HasSuffix(path, ".go") {
			t.Errorf("%s is no Go file", path)
			return nil
		}
		text, err := os.ReadFile(path)
		if err != nil {
			return err
		}
		set := token.NewFileSet()
		file, err := parser.ParseFile(set, path, text, parser.ParseComments)
		found = append(found, source{path, filepath.Base(filepath.Dir(path)), text, set, file})
		return err
	})
	if err != nil {
		t.Fatal(err)
	}
	if len(found) < len(layers) {
		t.Fatalf("only %d files of the program were found", len(found))
	}
	return found
}

// LANGUAGE.md 1, and the map of the document: what a file may import.
func TestImports(t *testing.T) {
	for _, s := range sources(t) {
		for _, spec := range s.file.Imports {
			path, _ := strconv.Unquote(spec.Path.Value)
			other, own := strings.CutPrefix(path, "granary/")
			from, to := slices.Index(layers, s.layer), slices.Index(layers, other)
			if own && from >= 0 && to >= from {
				t.Errorf("%s: layer %s calls %s", s.path, s.layer, other)
			}
			if !own && !slices.Contains(library, path) {
				t.Errorf("%s imports %s", s.path, path)
			}
		}
		ast.Inspect(s.file, func(n ast.Node) bool {
			if x, ok := n.(*ast.SelectorExpr); ok {
				if from, ok := x.X.(*ast.Ident); ok && from.Name == "sync" && !slices.Contains(ofSync, x.Sel.Name) {
					t.Errorf("%s uses sync.%s", s.path, x.Sel.Name)
				}
			}
			return true
		})
	}
}

// Chapter 4: hash keeps nothing, and calls api alone.
func TestHashStandsAlone(t *testing.T) {
	for _, s := range sources(t) {
		if s.layer != "hash" {
			continue
		}
		for _, spec := range s.file.Imports {
			if spec.Path.Value != `"granary/api"` {
				t.Errorf("%s imports %s", s.path, spec.Path.Value)
			}
		}
	}
	keepsNothing(t, "hash")
}

// callsAlone: of the project's packages a layer imports no others than these.
func callsAlone(t *testing.T, layer string, others ...string) {
	t.Helper()
	for _, s := range sources(t) {
		if s.layer != layer {
			continue
		}
		for _, spec := range s.file.Imports {
			path, _ := strconv.Unquote(spec.Path.Value)
			if other, own := strings.CutPrefix(path, "granary/"); own && !slices.Contains(others, other) {
				t.Errorf("%s imports %s", s.path, path)
			}
		}
	}
}

// keepsNothing: a layer has no variable of its own.
func keepsNothing(t *testing.T, layer string) {
	t.Helper()
	for _, s := range sources(t) {
		if s.layer != layer {
			continue
		}
		for _, d := range s.file.Decls {
			if g, ok := d.(*ast.GenDecl); ok && g.Tok == token.VAR {
				t.Errorf("%s keeps a variable", s.path)
			}
		}
	}
}

// Chapter 11: words keeps nothing, and calls api alone.
func TestWordsStandAlone(t *testing.T) {
	callsAlone(t, "words", "api")
	keepsNothing(t, "words")
}

// Chapter 12: line calls words, and a Feeder hangs on its limit and its bytes alone.
func TestLineCallsWords(t *testing.T) {
	callsAlone(t, "line", "api", "words")
	keepsNothing(t, "line")
}

// Chapter 13: reply keeps nothing, and calls api alone.
func TestReplyStandsAlone(t *testing.T) {
	callsAlone(t, "reply", "api")
	keepsNothing(t, "reply")
}

// Chapter 14: meta keeps nothing, and calls item, tide, store and words.
func TestMetaKeepsNothing(t *testing.T) {
	callsAlone(t, "meta", "api", "item", "tide", "store", "words")
	keepsNothing(t, "meta")
}

// Chapter 15: count knows no store, and calls api alone.
func TestCountStandsAlone(t *testing.T) {
	callsAlone(t, "count", "api")
}

// Chapter 16: serve calls store, line, reply, meta and count; what it keeps stands in a Server.
func TestServeKeepsNothing(t *testing.T) {
	callsAlone(t, "serve", "api", "store", "line", "reply", "meta", "count")
	keepsNothing(t, "serve")
}

// Chapter 17: shard calls hash and store, and item for what P10.2 says of a key; what it keeps stands in a Store.
func TestShardKeepsNothing(t *testing.T) {
	callsAlone(t, "shard", "api", "hash", "item", "store")
	keepsNothing(t, "shard")
}

// Chapter 18: warm calls hash, tide and store; what it keeps stands in a Disk.
func TestWarmKeepsNothing(t *testing.T) {
	callsAlone(t, "warm", "api", "hash", "tide", "store")
	keepsNothing(t, "warm")
}

// Chapter 19: ring calls hash; what it keeps stands in a Ring.
func TestRingKeepsNothing(t *testing.T) {
	callsAlone(t, "ring", "api", "hash")
	keepsNothing(t, "ring")
}

// Chapter 20: client calls words and reply; what it keeps stands in a Client.
func TestClientKeepsNothing(t *testing.T) {
	callsAlone(t, "client", "api", "words", "reply")
	keepsNothing(t, "client")
}

// Chapter 21: route calls words, line, reply, ring and client; what it keeps stands in a Router.
func TestRouteKeepsNothing(t *testing.T) {
	callsAlone(t, "route", "api", "words", "line", "reply", "ring", "client")
	keepsNothing(t, "route")
}

// LANGUAGE.md 2 and 9: no lines for the compiler, gofmt's layout, functions of a bounded length.
func TestLayout(t *testing.T) {
	for _, s := range sources(t) {
		if laid, err := format.Source(s.text); err != nil || !bytes.Equal(laid, s.text) {
			t.Errorf("%s is not laid out by gofmt", s.path)
		}
		for _, group := range s.file.Comments {
			for _, c := range group.List {
				if strings.HasPrefix(c.Text, "//go:") || strings.HasPrefix(c.Text, "// +build") {
					t.Errorf("%s: %s", s.path, c.Text)
				}
			}
		}
		for _, d := range s.file.Decls {
			f, ok := d.(*ast.FuncDecl)
			if !ok {
				continue
			}
			if lines := s.set.Position(f.End()).Line - s.set.Position(f.Pos()).Line + 1; lines > maxLines {
				t.Errorf("%s: %s has %d lines", s.path, f.Name.Name, lines)
			}
		}
	}
}

func isErrorsNew(call *ast.CallExpr) bool {
	f, ok := call.Fun.(*ast.SelectorExpr)
	if !ok {
		return false
	}
	from, ok := f.X.(*ast.Ident)
	return ok && from.Name == "errors" && f.Sel.Name == "New"
}

// mayStand: is there nothing in the value of a package-level variable that R9 or LANGUAGE.md 3b keeps out?
func mayStand(value ast.Expr) bool {
	fine := true
	ast.Inspect(value, func(n ast.Node) bool {
		switch x := n.(type) {
		case *ast.FuncLit, *ast.FuncType, *ast.MapType, *ast.ChanType, *ast.InterfaceType:
			fine = false
		case *ast.CallExpr:
			fine = fine && isErrorsNew(x)
		case *ast.UnaryExpr:
			fine = fine && x.Op != token.AND
		case *ast.BasicLit:
			fine = fine && x.Kind != token.FLOAT && x.Kind != token.IMAG
		case *ast.Ident:
			fine = fine && x.Name != "float32" && x.Name != "float64"
		}
		return fine
	})
	return fine
}

// R9: at package level stand constants, errors and short tables, each with its value written out.
func TestPackageLevel(t *testing.T) {
	for _, s := range sources(t) {
		for _, d := range s.file.Decls {
			if f, ok := d.(*ast.FuncDecl); ok && f.Recv == nil && f.Name.Name == "init" {
				t.Errorf("%s has a func init", s.path)
			}
			g, ok := d.(*ast.GenDecl)
			if !ok || g.Tok != token.VAR {
				continue
			}
			for _, spec := range g.Specs {
				v := spec.(*ast.ValueSpec)
				if len(v.Values) != len(v.Names) {
					t.Errorf("%s: %s has no value of its own", s.path, v.Names[0].Name)
				}
				for i, value := range v.Values {
					if !mayStand(value) || v.Type != nil && !mayStand(v.Type) {
						t.Errorf("%s: %s may not stand at package level", s.path, v.Names[i].Name)
					}
				}
			}
		}
	}
}

// mayStand itself: what it lets pass, and what not.
func TestMayStand(t *testing.T) {
	for text, must := range map[string]bool{
		"[]int{1, 2, 3}": true, `errors.New("x")`: true, "[2]row{{1, \"a\"}, {2, \"b\"}}": true, "-1": true,
		"map[string]int{}": false, "1.5": false, "float64(1)": false, "func() {}": false, "[]func(){}": false, "&row{}": false, "made()": false, "strings.Repeat(a, 2)": false, "a.b().c()": false,
	} {
		value, err := parser.ParseExpr(text)
		if err != nil {
			t.Fatal(err)
		}
		if mayStand(value) != must {
			t.Errorf("%s may stand at package level: %v", text, !must)
		}
	}
}
