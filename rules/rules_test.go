// Package rules tests what holds for the code of all layers.
package rules

import (
	"go/ast"
	"go/parser"
	"go/token"
	"path/filepath"
	"slices"
	"strconv"
	"strings"
	"testing"
)

// layers are the packages of the document's map, in its order.
func layers() []string {
	return strings.Fields("num perm graph column parts lex tree show prog scope typed clash eval den order flip bfs norm ir gen mail agg kernel engine driver script")
}

func library() []string {
	return strings.Fields("bytes cmp container/heap errors iter maps math math/bits slices sort strconv strings sync sync/atomic unicode unicode/utf8")
}

func files(t *testing.T, name string) []*ast.File {
	t.Helper()
	paths, err := filepath.Glob(filepath.Join("..", name, "*.go"))
	if err != nil {
		t.Fatal(err)
	}
	var out []*ast.File
	for _, path := range paths {
		if strings.HasSuffix(path, "_test.go") {
			continue
		}
		f, err := parser.ParseFile(token.NewFileSet(), path, nil, parser.SkipObjectResolution)
		if err != nil {
			t.Fatal(err)
		}
		out = append(out, f)
	}
	if len(out) == 0 {
		t.Fatalf("the layer %s has no code", name)
	}
	return out
}

// P6: no clock, chance or environment can be asked, since no package that has one is taken in.
func TestLayersTakeInOnlyWhatTheyMay(t *testing.T) {
	for i, name := range layers() {
		for _, f := range files(t, name) {
			for _, spec := range f.Imports {
				path, err := strconv.Unquote(spec.Path.Value)
				if err != nil {
					t.Fatal(err)
				}
				own, isOwn := strings.CutPrefix(path, "reticule/")
				isAhead := own == "api" || slices.Contains(layers()[:i], own)
				if isOwn && !isAhead || !isOwn && !slices.Contains(library(), path) {
					t.Errorf("the layer %s takes in %s", name, path)
				}
			}
		}
	}
}

// P6: nothing is kept between calls, since there is no place for it.
func TestLayersHaveNoVariables(t *testing.T) {
	for _, name := range layers() {
		for _, f := range files(t, name) {
			for _, d := range f.Decls {
				if g, is := d.(*ast.GenDecl); is && g.Tok == token.VAR {
					t.Errorf("the layer %s has a variable of its own", name)
				}
			}
		}
	}
}
