package wire_test

import (
	"go/ast"
	"go/parser"
	"go/token"
	"os"
	"strings"
	"testing"
)

// names are the names that each declaration of the package's functions and variables mentions; those of methods of one name are taken together.
func names(t *testing.T) map[string][]string {
	t.Helper()
	entries, err := os.ReadDir(".")
	if err != nil {
		t.Fatal(err)
	}
	mentions := map[string][]string{}
	for _, entry := range entries {
		name := entry.Name()
		if !strings.HasSuffix(name, ".go") || strings.HasSuffix(name, "_test.go") {
			continue
		}
		file, err := parser.ParseFile(token.NewFileSet(), name, nil, 0)
		if err != nil {
			t.Fatal(err)
		}
		for _, d := range file.Decls {
			if f, ok := d.(*ast.FuncDecl); ok {
				mentions[f.Name.Name] = append(mentions[f.Name.Name], mentioned(f.Body)...)
			}
		}
	}
	return mentions
}

func mentioned(body ast.Node) (l []string) {
	ast.Inspect(body, func(n ast.Node) bool {
		if id, ok := n.(*ast.Ident); ok {
			l = append(l, id.Name)
		}
		return true
	})
	return l
}

// reached are the names that a function mentions, or one that it mentions, and so on.
func reached(mentions map[string][]string, from string) map[string]bool {
	seen := map[string]bool{}
	work := []string{from}
	for len(work) > 0 {
		name := work[0]
		work = work[1:]
		if !seen[name] {
			seen[name] = true
			work = append(work, mentions[name]...)
		}
	}
	return seen
}

// What the chapter lists reads nothing that is kept from call to call; the table is read beside it alone.
func TestReachOfTheTable(t *testing.T) {
	mentions := names(t)
	for _, listed := range []string{"Num", "Text", "Nums", "Texts", "Sum", "NewReader", "Left", "Err", "End"} {
		if mentions[listed] == nil {
			t.Errorf("%s: there is none", listed)
		}
		seen := reached(mentions, listed)
		for _, kept := range []string{"shifted", "shiftedOnce"} {
			if seen[kept] {
				t.Errorf("%s reaches %s", listed, kept)
			}
		}
	}
	seen := reached(mentions, "SumByTable")
	if !seen["shifted"] || !seen["shiftedOnce"] {
		t.Error("SumByTable does not read the table that is made once")
	}
}
