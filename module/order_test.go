package module_test

import (
	"go/ast"
	"go/parser"
	"go/token"
	"os"
	"slices"
	"strings"
	"testing"
)

// Within one statement the language leaves open whether a variable is read ahead of a call that writes it. One compiler alone always takes the same order, so no answer tells such a statement: its text does.

// root is the name at the beginning of an expression like r.m.Data, or of a row of calls like r.mark().data().
func root(x ast.Expr) string {
	switch y := x.(type) {
	case *ast.Ident:
		return y.Name
	case *ast.SelectorExpr:
		return root(y.X)
	case *ast.CallExpr:
		return root(y.Fun)
	}
	return ""
}

// unordered are the names that a statement reads beside a call that may write them: as variables whose address it takes, or as those of which it reads a field, and calls a method, but not with that field as an argument, since arguments are read ahead of their call.
func unordered(statement ast.Node) []string {
	var out, written []string
	var read []*ast.Ident
	var fields []*ast.SelectorExpr
	var calls []*ast.CallExpr
	methods := map[ast.Expr]bool{}
	ast.Inspect(statement, func(n ast.Node) bool {
		switch x := n.(type) {
		case *ast.UnaryExpr:
			if name := root(x.X); x.Op == token.AND && name != "" {
				written = append(written, name)
				return false
			}
		case *ast.CallExpr:
			methods[x.Fun] = true
			calls = append(calls, x)
		case *ast.SelectorExpr:
			if _, plain := x.X.(*ast.Ident); plain && !methods[x] {
				fields = append(fields, x)
			}
		case *ast.Ident:
			read = append(read, x)
		}
		return true
	})
	for _, x := range read {
		if slices.Contains(written, x.Name) {
			out = append(out, x.Name)
		}
	}
	for _, x := range fields {
		for _, call := range calls {
			if root(call) == root(x) && !(call.Lparen < x.Pos() && x.Pos() < call.Rparen) {
				out = append(out, root(x))
			}
		}
	}
	return out
}

// heads are what is evaluated as one: a simple statement, or what stands ahead of a statement's block.
func heads(n ast.Node) []ast.Node {
	var all []ast.Expr
	switch x := n.(type) {
	case *ast.ExprStmt, *ast.AssignStmt, *ast.IncDecStmt, *ast.ReturnStmt, *ast.DeferStmt, *ast.DeclStmt:
		return []ast.Node{x}
	case *ast.IfStmt:
		all = append(all, x.Cond)
	case *ast.ForStmt:
		all = append(all, x.Cond)
	case *ast.RangeStmt:
		all = append(all, x.X)
	case *ast.SwitchStmt:
		all = append(all, x.Tag)
	case *ast.CaseClause:
		all = x.List
	}
	var out []ast.Node
	for _, x := range all {
		if x != nil {
			out = append(out, x)
		}
	}
	return out
}

// look tells where in a file statements are unordered, and how many statements were looked at.
func look(t *testing.T, name string, text any) (found []string, many int) {
	t.Helper()
	places := token.NewFileSet()
	f, err := parser.ParseFile(places, name, text, 0)
	if err != nil {
		t.Fatal(err)
	}
	ast.Inspect(f, func(n ast.Node) bool {
		for _, head := range heads(n) {
			many++
			if names := unordered(head); len(names) > 0 {
				found = append(found, places.Position(head.Pos()).String()+" "+strings.Join(names, " "))
			}
		}
		return true
	})
	return found, many
}

// P8.2

func TestNothingIsReadBesideACallThatWritesIt(t *testing.T) {
	all, err := os.ReadDir(".")
	if err != nil {
		t.Fatal(err)
	}
	total := 0
	for _, x := range all {
		if !strings.HasSuffix(x.Name(), ".go") || strings.HasSuffix(x.Name(), "_test.go") {
			continue
		}
		found, many := look(t, x.Name(), nil)
		for _, at := range found {
			t.Error(at)
		}
		total += many
	}
	if total < 60 {
		t.Errorf("%d statements", total)
	}
}

func TestUnorderedStatementsAreFound(t *testing.T) {
	for text, want := range map[string]int{
		"r.number(&many, 1).need(some(many), e, at)":         1,
		"return r.number(&many, 1).need(many > 0, e, at)":    1,
		"if r.number(&many, 1).need(ok, e, many) == r {\n}":  1,
		"for range r.number(&f.Regs, 1).list(f.Regs) {\n}":   1,
		"r.piece(&b, 2).need(true, e, r.place)":              1,
		"return r.m, r.mark().Err":                           1,
		"r.need(r.piece(&b, 2).place > 0, e, r.place)":       1,
		"return r.m, r.mark().end().Err":                     1,
		"r.number(&many, 1)\nr.need(some(many), e, at)":      0,
		"r.number(&many, 1).number(&f.Regs, 2)":              0,
		"if r.mark().end(); r.Err != e {\nreturn r.m\n}":     0,
		"return r.need(r.place == len(r.bytes), e, r.place)": 0,
	} {
		if found, _ := look(t, "sample.go", "package sample\nfunc f() {\n"+text+"\n}\n"); len(found) != want {
			t.Errorf("%s: %q", text, found)
		}
	}
}
