// Package rules tests that the program keeps to the form that is required of its code.
package rules

import (
	"bytes"
	"go/ast"
	"go/format"
	"go/parser"
	"go/token"
	"os"
	"path/filepath"
	"slices"
	"strconv"
	"strings"
	"testing"
)

const maxLines = 60

// layers returns the packages of the layers in their order.
func layers() []string {
	return strings.Fields(`bigint rational radical rotation spans vector predicate segment line ring
		polygon hull convex transform sweep slab dcel arrangement locate overlay
		boolean triangulate decompose delaunay visibility distance convexsum minkowski offset raster
		robot workspace placement forbidden freecells connect motion sweepcheck separate certify
		roadmap shortest optimal clearance slices swept turning joints coordination priority
		schedule moving doors edits repair mapformat planformat render shell audit`)
}

// library returns the packages of the standard library that the program may import.
func library() []string {
	return strings.Fields(`bytes cmp container/heap errors iter maps math math/bits slices sort
		strconv strings sync sync/atomic unicode unicode/utf8`)
}

// source is a file of a layer.
type source struct {
	layer int
	path  string
	text  []byte
	set   *token.FileSet
	file  *ast.File
}

// sources returns the files of all layers without their tests.
func sources(t *testing.T) []source {
	var list []source
	for i, name := range layers() {
		paths, err := filepath.Glob(filepath.Join("..", name, "*.go"))
		if err != nil || len(paths) == 0 {
			t.Errorf("there is no package %s", name)
		}
		for _, path := range paths {
			if strings.HasSuffix(path, "_test.go") {
				continue
			}
			text, err := os.ReadFile(path)
			if err != nil {
				t.Fatal(err)
			}
			set := token.NewFileSet()
			file, err := parser.ParseFile(set, path, text, parser.ParseComments)
			if err != nil {
				t.Fatal(err)
			}
			list = append(list, source{i, path, text, set, file})
		}
	}
	return list
}

func TestImports(t *testing.T) {
	for _, s := range sources(t) {
		for _, spec := range s.file.Imports {
			path, _ := strconv.Unquote(spec.Path.Value)
			name, own := strings.CutPrefix(path, "narrows/")
			if !own && !slices.Contains(library(), path) {
				t.Errorf("%s imports %s", s.path, path)
			}
			if own && slices.Index(layers(), name) >= s.layer {
				t.Errorf("%s imports %s, which is no lower layer", s.path, path)
			}
		}
	}
}

func TestFunctionsAreSmall(t *testing.T) {
	for _, s := range sources(t) {
		for _, d := range s.file.Decls {
			if f, is := d.(*ast.FuncDecl); is {
				if n := s.set.Position(f.End()).Line - s.set.Position(f.Pos()).Line + 1; n > maxLines {
					t.Errorf("%s: %s has %d lines", s.path, f.Name.Name, n)
				}
			}
		}
	}
}

func TestLayout(t *testing.T) {
	for _, s := range sources(t) {
		if text, err := format.Source(s.text); err != nil || !bytes.Equal(text, s.text) {
			t.Errorf("%s is not in gofmt's layout", s.path)
		}
		for _, group := range s.file.Comments {
			for _, c := range group.List {
				if strings.HasPrefix(c.Text, "//go:") || strings.HasPrefix(c.Text, "// +build") {
					t.Errorf("%s has the directive %s", s.path, c.Text)
				}
			}
		}
	}
}
