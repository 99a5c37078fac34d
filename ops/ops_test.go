package ops_test

import (
	"go/ast"
	"go/constant"
	"go/parser"
	"go/token"
	"go/types"
	"strings"
	"testing"

	"quaestor/sample"
)

// named are the constants of the package, by the names that the chapter writes.
func named(t *testing.T) map[string]types.Object {
	t.Helper()
	set := token.NewFileSet()
	file, err := parser.ParseFile(set, "ops.go", nil, 0)
	if err != nil {
		t.Fatal(err)
	}
	p, err := new(types.Config).Check("ops", set, []*ast.File{file}, nil)
	if err != nil {
		t.Fatal(err)
	}
	l := map[string]types.Object{}
	for _, name := range p.Scope().Names() {
		upper := strings.ToUpper(name)
		if l[upper] != nil {
			t.Errorf("%s: twice", upper)
		}
		l[upper] = p.Scope().Lookup(name)
	}
	return l
}

// ofMany says whether an operation is one of many of a kind, of which only the first one and the last have names here.
func ofMany(name string) bool {
	kind := strings.TrimRight(name, "0123456789")
	return strings.Contains(" PUSH DUP SWAP LOG ", " "+kind+" ")
}

func TestNames(t *testing.T) {
	l := named(t)
	for _, o := range sample.Operations() {
		c, ok := l[o.Name].(*types.Const)
		delete(l, o.Name)
		if !ok {
			if !ofMany(o.Name) {
				t.Errorf("%s: no name", o.Name)
			}
			continue
		}
		if !types.Identical(c.Type(), types.Typ[types.Uint8]) {
			t.Errorf("%s: of type %s", o.Name, c.Type())
		}
		if n, ok := constant.Uint64Val(c.Val()); !ok || n != uint64(o.Op) {
			t.Errorf("%s: %s, not %#x", o.Name, c.Val(), o.Op)
		}
		if !c.Exported() {
			t.Errorf("%s: not exported", o.Name)
		}
	}
	for name := range l {
		t.Errorf("%s: no operation", name)
	}
}

// TestEnds shows that those of many of a kind have the names that are needed.
func TestEnds(t *testing.T) {
	l := named(t)
	for name := range strings.FieldsSeq("PUSH0 PUSH32 DUP1 DUP16 SWAP1 SWAP16 LOG0 LOG4") {
		if l[name] == nil {
			t.Errorf("%s: no name", name)
		}
	}
}
