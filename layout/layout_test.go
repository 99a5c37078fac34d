// Package layout has tests alone: that the layers import what the document's map and the language's rules let them.
package layout

import (
	"go/ast"
	"go/parser"
	"go/token"
	"path/filepath"
	"slices"
	"strconv"
	"strings"
	"testing"
)

// layers are what each package may import of the project: the document's map.
var layers = map[string]string{
	"api":    "",
	"word":   "api",
	"keccak": "api word",
	"sha":    "api word",
	"rlp":    "api",
	"abi":    "api word keccak",
	"hexa":   "api word",
	"json":   "api",
	"code":   "api word",
	"fees":   "api word",
	"store":  "api word",
	"calc":   "api word code",
	"desk":   "api word abi store",
	"vm":     "api word keccak sha rlp code fees store calc desk",
	"trace":  "api word",
	"userop": "api word keccak abi desk",
	"entry":  "api word keccak abi store desk vm userop",
	"rules":  "api word abi store desk trace",
	"foot":   "api word",
	"repute": "api",
	"pool":   "api word rules foot repute",
	"bundle": "api word store desk trace userop entry rules foot repute",
	"guess":  "api abi fees store userop entry",
	"rpc":    "api word abi hexa json store desk userop entry rules repute pool bundle guess",
	"lab":    "api word hexa rpc",
}

// isLayer says whether a package is one of the map; further ones may be imported freely.
func isLayer(name string) bool {
	_, ok := layers[name]
	return ok
}

// library is what of Go's library the program may import.
const library = "bytes cmp container/heap errors iter maps math math/bits slices sort strconv strings sync sync/atomic unicode unicode/utf8"

// sources are the paths of a layer's files, without its tests.
func sources(t *testing.T, layer string) []string {
	t.Helper()
	all, err := filepath.Glob(filepath.Join("..", layer, "*.go"))
	if err != nil {
		t.Fatal(err)
	}
	l := slices.DeleteFunc(all, func(f string) bool { return strings.HasSuffix(f, "_test.go") })
	if len(l) == 0 {
		t.Errorf("package %s is missing", layer)
	}
	return l
}

func checkImports(t *testing.T, layer, path string, file *ast.File) {
	t.Helper()
	for _, s := range file.Imports {
		name, err := strconv.Unquote(s.Path.Value)
		if err != nil {
			t.Fatal(err)
		}
		own, is := strings.CutPrefix(name, "quaestor/")
		switch {
		case is && isLayer(own) && !slices.Contains(strings.Fields(layers[layer]), own):
			t.Errorf("%s imports %s, which the map does not list", path, name)
		case !is && !slices.Contains(strings.Fields(library), name):
			t.Errorf("%s imports %s, which the language has not", path, name)
		}
	}
}

func TestLayers(t *testing.T) {
	for layer := range layers {
		for _, path := range sources(t, layer) {
			file, err := parser.ParseFile(token.NewFileSet(), path, nil, parser.ImportsOnly)
			if err != nil {
				t.Fatal(err)
			}
			if file.Name.Name != layer {
				t.Errorf("%s is of package %s", path, file.Name.Name)
			}
			checkImports(t, layer, path, file)
		}
	}
}
