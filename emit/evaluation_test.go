package emit_test

import (
	"go/ast"
	"go/importer"
	"go/parser"
	"go/token"
	"go/types"
	"path/filepath"
	"strings"
	"testing"
)

// source is the program's own text: what each function may assign, by itself and by those that it calls.
type source struct {
	set     *token.FileSet
	info    *types.Info
	library types.Importer
	files   map[string][]*ast.File
	known   map[string]*types.Package
	assigns map[types.Object]map[types.Object]bool
	calls   map[types.Object]map[types.Object]bool
	values  map[*types.Package]map[types.Object]bool // what literals of a package assign and call: a call of a value may be one of any of them
}

// Import reads a package; of the program by its text.
func (s *source) Import(path string) (*types.Package, error) {
	name, own := strings.CutPrefix(path, "scarfjoint/")
	if !own {
		return s.library.Import(path)
	}
	if s.known[path] != nil {
		return s.known[path], nil
	}
	paths, err := filepath.Glob(filepath.Join("..", name, "*.go"))
	for _, p := range paths {
		if strings.HasSuffix(p, "_test.go") {
			continue
		}
		f, err := parser.ParseFile(s.set, p, nil, 0)
		if err != nil {
			return nil, err
		}
		s.files[path] = append(s.files[path], f)
	}
	if err != nil {
		return nil, err
	}
	config := types.Config{Importer: s}
	p, err := config.Check(path, s.set, s.files[path], s.info)
	s.known[path] = p
	return p, err
}

// target is the variable that an assignment changes, or a part of it.
func (s *source) target(e ast.Expr) types.Object {
	switch x := ast.Unparen(e).(type) {
	case *ast.Ident:
		return s.info.ObjectOf(x)
	case *ast.SelectorExpr:
		return s.info.ObjectOf(x.Sel)
	case *ast.IndexExpr:
		return s.target(x.X)
	case *ast.StarExpr:
		return s.target(x.X)
	}
	return nil
}

// callee is what a call calls: a function, or a variable that is one.
func (s *source) callee(c *ast.CallExpr) types.Object {
	switch x := ast.Unparen(c.Fun).(type) {
	case *ast.Ident:
		return s.info.Uses[x]
	case *ast.SelectorExpr:
		return s.info.Uses[x.Sel]
	}
	return nil
}

// learn finds what a function assigns, and what it calls.
func (s *source) learn(f *ast.FuncDecl) {
	own, called := map[types.Object]bool{}, map[types.Object]bool{}
	name := s.info.Defs[f.Name]
	s.assigns[name], s.calls[name] = own, called
	if s.values[name.Pkg()] == nil {
		s.values[name.Pkg()] = map[types.Object]bool{}
	}
	depth := 0
	var visit func(n ast.Node) bool
	visit = func(n ast.Node) bool {
		assign := func(e ast.Expr) {
			own[s.target(e)] = true
			if depth > 0 {
				s.values[name.Pkg()][s.target(e)] = true
			}
		}
		switch x := n.(type) {
		case *ast.AssignStmt:
			for _, l := range x.Lhs {
				assign(l)
			}
		case *ast.IncDecStmt:
			assign(x.X)
		case *ast.Ident:
			if g, ok := s.info.Uses[x].(*types.Func); ok {
				called[g] = true
				if depth > 0 {
					s.values[name.Pkg()][g] = true
				}
			}
		case *ast.FuncLit:
			depth++
			ast.Inspect(x.Body, visit)
			depth--
			return false
		}
		return true
	}
	ast.Inspect(f.Body, visit)
}

// close has each function assign what those that it calls do.
func (s *source) close() {
	for again := true; again; {
		again = false
		for f, own := range s.assigns {
			for g := range s.calls[f] {
				for v := range s.assigns[g] {
					again = again || !own[v]
					own[v] = true
				}
			}
		}
	}
}

// changes tells whether a call may change a variable.
func (s *source) changes(c *ast.CallExpr, v types.Object) bool {
	f := s.callee(c)
	if _, value := f.(*types.Var); value {
		for g := range s.values[f.Pkg()] {
			if g == v || s.assigns[g][v] {
				return true
			}
		}
	}
	return s.assigns[f][v]
}

// parts are the expressions of a statement that are reckoned with no order between what is read and what is called.
func parts(n ast.Node) []ast.Expr {
	switch x := n.(type) {
	case *ast.AssignStmt:
		l := append([]ast.Expr{}, x.Rhs...)
		for _, e := range x.Lhs {
			switch y := e.(type) {
			case *ast.IndexExpr:
				l = append(l, y.X, y.Index)
			case *ast.SelectorExpr:
				if l = append(l, y.X); x.Tok != token.ASSIGN {
					l = append(l, y)
				}
			case *ast.StarExpr:
				l = append(l, y.X)
			}
		}
		return l
	case *ast.ReturnStmt:
		return x.Results
	case *ast.ExprStmt:
		return []ast.Expr{x.X}
	case *ast.IfStmt:
		return []ast.Expr{x.Cond}
	case *ast.ForStmt:
		return []ast.Expr{x.Cond}
	case *ast.RangeStmt:
		return []ast.Expr{x.X}
	case *ast.SwitchStmt:
		return []ast.Expr{x.Tag}
	case *ast.CaseClause:
		return x.List
	case *ast.DeferStmt:
		return []ast.Expr{x.Call}
	case *ast.ValueSpec:
		return x.Values
	}
	return nil
}

// inspect goes through expressions, but not into what is done later.
func inspect(l []ast.Expr, with func(n ast.Node) bool) {
	for _, e := range l {
		if e == nil {
			continue
		}
		ast.Inspect(e, func(n ast.Node) bool {
			if _, later := n.(*ast.FuncLit); later || n == nil {
				return false
			}
			return with(n)
		})
	}
}

// Rule 5 of the language: Go leaves open whether a variable is read ahead of a call in the same expression or behind it. So no call of the program changes what is read beside it, by itself or by what it calls.
func TestOrderOfEvaluation(t *testing.T) {
	s := &source{
		set: token.NewFileSet(), files: map[string][]*ast.File{}, known: map[string]*types.Package{},
		info:    &types.Info{Types: map[ast.Expr]types.TypeAndValue{}, Uses: map[*ast.Ident]types.Object{}, Defs: map[*ast.Ident]types.Object{}, Selections: map[*ast.SelectorExpr]*types.Selection{}},
		assigns: map[types.Object]map[types.Object]bool{}, calls: map[types.Object]map[types.Object]bool{}, values: map[*types.Package]map[types.Object]bool{},
	}
	s.library = importer.ForCompiler(s.set, "source", nil)
	for _, name := range []string{"word", "code", "machine", "types", "lex", "syntax", "check", "model", "abi", "moves", "three", "lower", "live", "colour", "tail", "emit", "object", "link", "drive"} {
		if _, err := s.Import("scarfjoint/" + name); err != nil {
			t.Fatal(err)
		}
	}
	var functions []*ast.FuncDecl
	for _, files := range s.files {
		for _, f := range files {
			for _, d := range f.Decls {
				if fn, ok := d.(*ast.FuncDecl); ok {
					functions = append(functions, fn)
					s.learn(fn)
				}
			}
		}
	}
	s.close()
	read := 0
	for _, f := range functions {
		ast.Inspect(f.Body, func(n ast.Node) bool {
			read += s.look(t, parts(n))
			return true
		})
	}
	if len(functions) < 300 || read < 60 {
		t.Error("rarely seen:", len(functions), read)
	}
}

// look finds what is read beside a call that may change it, and tells how much is read beside calls.
func (s *source) look(t *testing.T, l []ast.Expr) int {
	var calls []*ast.CallExpr
	inspect(l, func(n ast.Node) bool {
		if c, ok := n.(*ast.CallExpr); ok {
			calls = append(calls, c)
		}
		return true
	})
	read := 0
	for _, c := range calls {
		_, value := s.callee(c).(*types.Var)
		inspect(l, func(n ast.Node) bool {
			if v := s.reads(n, value); v != nil {
				read++
				if s.changes(c, v) {
					t.Errorf("%s: %s is read beside %s, which may change it", s.set.Position(n.Pos()), v.Name(), types.ExprString(c.Fun))
				}
			}
			// What a call is given is read ahead of it.
			return n != ast.Node(c)
		})
	}
	return read
}

// reads is the variable that an expression reads, if a call may reach it: a field by a pointer, and, if a value is called, which may be a literal, also a local.
func (s *source) reads(n ast.Node, value bool) types.Object {
	switch x := n.(type) {
	case *ast.SelectorExpr:
		if l := s.info.Selections[x]; l != nil && l.Kind() == types.FieldVal && (l.Indirect() || value) {
			return l.Obj()
		}
	case *ast.Ident:
		if v, ok := s.info.Uses[x].(*types.Var); ok && value && !v.IsField() {
			return v
		}
	}
	return nil
}
