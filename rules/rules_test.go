// Package rules holds the layers that have landed against the language that they are to be written in, the map, and the document's section 'Ways'.
package rules

import (
	"go/ast"
	"go/parser"
	"go/token"
	"path/filepath"
	"slices"
	"strconv"
	"strings"
	"testing"
)

type layer struct {
	name  string
	calls []string // the layers that the map lets it call
	ways  []way
}

type way struct {
	word string
	has  func(ast.Node) bool
}

func landed() []layer {
	return []layer{
		{"field", []string{"api"}, []way{{"label", labelledLoopWithShifts}, {"variadic", variadic}}},
		{"envelope", []string{"api", "field"}, []way{{"constant-table", constantTable}, {"array", arrayTable}}},
		{"draw", []string{"api"}, []way{{"method-value", methodValue}, {"copy", copies}, {"conversion", cutProduct}}},
		{"bag", []string{"api"}, []way{{"map", mapByInts("Msg")}, {"delete", deletes}, {"closure", placeByClosure}}},
		{"clock", []string{"api"}, []way{{"map", mapByInts("timer")}, {"heap", ownHeap}, {"closure", comparesByClosure}}},
		{"oplog", []string{"api"}, []way{{"three-index", threeIndex}, {"closure", givesClosure}}},
		{"table", []string{"api"}, []way{{"array", arrayOf("memory")}, {"array-copied", copiesItself}, {"struct-compared", comparesStructs}}},
		{"view", []string{"api"}, []way{{"shift", setsBits}, {"range-integer", rangeOver("n")}, {"closure", comparesFieldsByClosure("Last", "Ops")}}},
		{"note", []string{"api", "field", "envelope"}, []way{{"function-field", functionField("read")}, {"closure", closureInField("read")}, {"compared", comparesWritten}}},
		{"vr", []string{"api", "view"}, []way{{"switch", switchOver("View", "Phase")}, {"map", mapBy("From")}, {"closure", givesClosure}}},
		{"core", []string{"api", "bag", "clock", "oplog", "view", "vr"}, []way{{"switch", switchOfMethods("Kind")}, {"map", mapByInts("heard")}, {"closure", givesClosure}}},
		{"lexer", []string{"api"}, []way{{"closure", answersClosure("rune", "bool")}, {"range-string", rangeOverText("Name")}, {"iota", countsFrom("Word")}}},
		{"def", []string{"api", "lexer"}, []way{{"struct-methods", methodsOf("reader")}, {"constant-table", constantTable}, {"closure", answersClosure("Token", "bool")}}},
		{"plan", []string{"api", "def"}, []way{{"closure", givesClosureTo(addsAnswer)}, {"range-function", goesDownByFunction}}},
		{"saga", []string{"api", "def", "plan"}, []way{{"array-compared", comparesField("Hit", isArray)}, {"closure", givesClosureTo(returnsAnswer)}}},
		{"book", []string{"api", "saga"}, []way{{"map", mapByInts("Saga")}, {"range-map", rangeOverMap("Saga")}, {"closure", countsByClosure}}},
		{"image", []string{"api", "field", "envelope", "note", "saga", "book"}, []way{{"variadic", variadicOf("Field")}, {"closure", readsByClosure}, {"strings-compared", comparesAsStrings}}},
		{"outbox", []string{"api", "saga", "book"}, []way{{"map", mapByInts("place")}, {"struct-compared", comparesField("command", isCommand)}, {"in-order", sortsKeys}}},
		{"stub", []string{"api"}, []way{{"map", mapByStructs}, {"three-index", threeIndexOf("planned")}}},
		{"op", []string{"api"}, nil}, // no layer: what several of them do with operations, and with messages that hold some
	}
}

func all() []string {
	return strings.Fields("api field envelope draw bag clock oplog table view note vr core lexer def plan saga book image outbox stub node client cluster history audit script")
}

func library() []string {
	return strings.Fields("bytes cmp container/heap errors iter maps math math/bits slices sort strconv strings sync sync/atomic unicode unicode/utf8")
}

// sources: the files of a package that are no tests.
func sources(t *testing.T, name string) (*token.FileSet, []*ast.File) {
	t.Helper()
	paths, err := filepath.Glob(filepath.Join("..", name, "*.go"))
	if err != nil {
		t.Fatal(err)
	}
	fset := token.NewFileSet()
	var files []*ast.File
	for _, p := range paths {
		if strings.HasSuffix(p, "_test.go") {
			continue
		}
		f, err := parser.ParseFile(fset, p, nil, parser.ParseComments)
		if err != nil {
			t.Fatal(err)
		}
		files = append(files, f)
	}
	if len(files) == 0 {
		t.Fatalf("package %s has no file", name)
	}
	return fset, files
}

func mayImport(l layer, path string) bool {
	if slices.Contains(library(), path) {
		return true
	}
	own, ok := strings.CutPrefix(path, "drover/")
	return ok && (slices.Contains(l.calls, own) || !slices.Contains(all(), own))
}

func TestImports(t *testing.T) {
	for _, l := range landed() {
		fset, files := sources(t, l.name)
		for _, f := range files {
			for _, s := range f.Imports {
				path, err := strconv.Unquote(s.Path.Value)
				if err != nil || !mayImport(l, path) {
					t.Errorf("%s: import %s", fset.Position(s.Pos()), s.Path.Value)
				}
			}
		}
	}
}

func TestNoDirectives(t *testing.T) {
	for _, l := range landed() {
		fset, files := sources(t, l.name)
		for _, f := range files {
			for _, g := range f.Comments {
				for _, c := range g.List {
					if strings.HasPrefix(c.Text, "//go:") || strings.HasPrefix(c.Text, "// +build") {
						t.Errorf("%s: %s", fset.Position(c.Pos()), c.Text)
					}
				}
			}
		}
	}
}

func TestWays(t *testing.T) {
	for _, l := range landed() {
		_, files := sources(t, l.name)
		for _, w := range l.ways {
			if !slices.ContainsFunc(files, func(f *ast.File) bool { return anyNode(f, w.has) }) {
				t.Errorf("package %s lacks the way %s", l.name, w.word)
			}
		}
	}
}

func anyNode(root ast.Node, has func(ast.Node) bool) bool {
	found := false
	ast.Inspect(root, func(n ast.Node) bool {
		found = found || n != nil && has(n)
		return !found
	})
	return found
}

func labelledLoopWithShifts(n ast.Node) bool {
	l, ok := n.(*ast.LabeledStmt)
	if !ok {
		return false
	}
	switch l.Stmt.(type) {
	case *ast.ForStmt, *ast.RangeStmt:
		return anyNode(l.Stmt, shift)
	}
	return false
}

func shift(n ast.Node) bool {
	switch x := n.(type) {
	case *ast.BinaryExpr:
		return x.Op == token.SHL || x.Op == token.SHR
	case *ast.AssignStmt:
		return x.Tok == token.SHL_ASSIGN || x.Tok == token.SHR_ASSIGN
	}
	return false
}

func variadic(n ast.Node) bool {
	f, ok := n.(*ast.FuncType)
	if !ok || f.Params == nil {
		return false
	}
	return slices.ContainsFunc(f.Params.List, func(p *ast.Field) bool {
		_, ok := p.Type.(*ast.Ellipsis)
		return ok
	})
}

// variadicOf: is a function that writes of as many as one likes of what is named so?
func variadicOf(name string) func(ast.Node) bool {
	return func(n ast.Node) bool {
		f, ok := n.(*ast.FuncDecl)
		return ok && variadic(f.Type) && anyNode(f.Type, selects(name)) && anyNode(f.Body, selects("Write"))
	}
}

// readsByClosure: is a function literal that looks at a field's number given to a call?
func readsByClosure(n ast.Node) bool {
	c, ok := n.(*ast.CallExpr)
	return ok && givesClosure(c) && slices.ContainsFunc(c.Args, func(e ast.Expr) bool {
		f, ok := e.(*ast.FuncLit)
		return ok && anyNode(f.Body, func(n ast.Node) bool {
			s, ok := n.(*ast.SwitchStmt)
			return ok && s.Tag != nil && selects("Num")(s.Tag)
		})
	})
}

// comparesAsStrings: are two things held against each other that both became strings?
func comparesAsStrings(n ast.Node) bool {
	b, ok := n.(*ast.BinaryExpr)
	return ok && (b.Op == token.EQL || b.Op == token.NEQ) && callOf(b.X, "string") && callOf(b.Y, "string")
}

func constantTable(n ast.Node) bool { return slices.ContainsFunc(tables(n), ofConstants) }

func arrayTable(n ast.Node) bool { return slices.ContainsFunc(tables(n), inArray) }

// tables: what a file's variables at package level are written out as.
func tables(n ast.Node) []*ast.CompositeLit {
	f, ok := n.(*ast.File)
	if !ok {
		return nil
	}
	var l []*ast.CompositeLit
	for _, d := range f.Decls {
		g, ok := d.(*ast.GenDecl)
		if !ok || g.Tok != token.VAR {
			continue
		}
		for _, s := range g.Specs {
			for _, v := range s.(*ast.ValueSpec).Values {
				if c, ok := v.(*ast.CompositeLit); ok {
					l = append(l, c)
				}
			}
		}
	}
	return l
}

func ofConstants(c *ast.CompositeLit) bool {
	return len(c.Elts) > 0 && !slices.ContainsFunc(c.Elts, func(e ast.Expr) bool {
		_, ok := e.(*ast.BasicLit)
		return !ok
	})
}

func inArray(c *ast.CompositeLit) bool {
	a, ok := c.Type.(*ast.ArrayType)
	return ok && a.Len != nil
}

// methodValue: is a method that the file declares given to a call, and not called?
func methodValue(n ast.Node) bool {
	f, ok := n.(*ast.File)
	return ok && anyNode(f, func(n ast.Node) bool {
		c, ok := n.(*ast.CallExpr)
		return ok && slices.ContainsFunc(c.Args, func(e ast.Expr) bool {
			s, ok := e.(*ast.SelectorExpr)
			return ok && slices.ContainsFunc(f.Decls, func(d ast.Decl) bool {
				m, ok := d.(*ast.FuncDecl)
				return ok && m.Recv != nil && m.Name.Name == s.Sel.Name
			})
		})
	})
}

func copies(n ast.Node) bool { return callOf(n, "copy") }

// cutProduct: is a product of numbers that have room for it cut to 32 bits?
func cutProduct(n ast.Node) bool {
	return callOf(n, "uint32") && anyNode(n, func(n ast.Node) bool {
		b, ok := n.(*ast.BinaryExpr)
		return ok && b.Op == token.MUL && callOf(b.X, "uint64") && callOf(b.Y, "uint64")
	})
}

// mapByInts: is a field of a struct a map by ints, of what is named so?
func mapByInts(value string) func(ast.Node) bool {
	return fieldOf(func(e ast.Expr) bool {
		m, ok := e.(*ast.MapType)
		return ok && names(m.Key, "int") && anyNode(m.Value, func(n ast.Node) bool { return names(n, value) })
	})
}

// mapByStructs: is a field of a struct a map whose keys are structs that the file declares?
func mapByStructs(n ast.Node) bool {
	f, ok := n.(*ast.File)
	return ok && anyNode(f, fieldOf(func(e ast.Expr) bool {
		m, ok := e.(*ast.MapType)
		return ok && declaresStruct(f, m.Key)
	}))
}

// arrayOf: is a field of a struct an array of what is named so?
func arrayOf(value string) func(ast.Node) bool {
	return fieldOf(func(e ast.Expr) bool {
		a, ok := e.(*ast.ArrayType)
		return ok && a.Len != nil && names(a.Elt, value)
	})
}

// fieldOf: is a field of a struct of a type as is asked for?
func fieldOf(asked func(ast.Expr) bool) func(ast.Node) bool {
	return func(n ast.Node) bool {
		s, ok := n.(*ast.StructType)
		return ok && slices.ContainsFunc(s.Fields.List, func(f *ast.Field) bool { return asked(f.Type) })
	}
}

// copiesItself: does a method take what its receiver points to as a value?
func copiesItself(n ast.Node) bool {
	m, ok := n.(*ast.FuncDecl)
	if !ok || m.Recv == nil || len(m.Recv.List[0].Names) == 0 {
		return false
	}
	receiver := m.Recv.List[0].Names[0].Name
	return anyNode(m.Body, func(n ast.Node) bool {
		a, ok := n.(*ast.AssignStmt)
		return ok && slices.ContainsFunc(a.Rhs, func(e ast.Expr) bool {
			s, ok := e.(*ast.StarExpr)
			return ok && names(s.X, receiver)
		})
	})
}

// comparesStructs: is a struct that a method of the file tells held against another one?
func comparesStructs(n ast.Node) bool {
	f, ok := n.(*ast.File)
	return ok && anyNode(f, func(n ast.Node) bool {
		b, ok := n.(*ast.BinaryExpr)
		return ok && (b.Op == token.EQL || b.Op == token.NEQ) && (callsForStruct(f, b.X) || callsForStruct(f, b.Y))
	})
}

// callsForStruct: is it a call of a method that the file declares, whose one answer is of a struct that the file declares?
func callsForStruct(f *ast.File, e ast.Expr) bool {
	c, ok := e.(*ast.CallExpr)
	if !ok {
		return false
	}
	s, ok := c.Fun.(*ast.SelectorExpr)
	return ok && anyNode(f, func(n ast.Node) bool {
		m, ok := n.(*ast.FuncDecl)
		return ok && m.Recv != nil && m.Name.Name == s.Sel.Name && m.Type.Results != nil && len(m.Type.Results.List) == 1 &&
			declaresStruct(f, m.Type.Results.List[0].Type)
	})
}

func declaresStruct(f *ast.File, name ast.Expr) bool {
	i, ok := name.(*ast.Ident)
	return ok && anyNode(f, func(n ast.Node) bool {
		t, ok := n.(*ast.TypeSpec)
		if !ok || t.Name.Name != i.Name {
			return false
		}
		_, ok = t.Type.(*ast.StructType)
		return ok
	})
}

func deletes(n ast.Node) bool { return callOf(n, "delete") }

// placeByClosure: does a function literal look at where a message goes to?
func placeByClosure(n ast.Node) bool {
	f, ok := n.(*ast.FuncLit)
	return ok && anyNode(f.Body, selects("To"))
}

// ownHeap: does a file declare a heap as a list, and not take the library's?
func ownHeap(n ast.Node) bool {
	f, ok := n.(*ast.File)
	return ok && !slices.ContainsFunc(f.Imports, func(s *ast.ImportSpec) bool { return s.Path.Value == `"container/heap"` }) &&
		anyNode(f, func(n ast.Node) bool {
			s, ok := n.(*ast.TypeSpec)
			if !ok || s.Name.Name != "heap" {
				return false
			}
			a, ok := s.Type.(*ast.ArrayType)
			return ok && a.Len == nil
		})
}

// comparesByClosure: does a function literal hold two whole values against each other?
func comparesByClosure(n ast.Node) bool {
	f, ok := n.(*ast.FuncLit)
	return ok && anyNode(f.Body, func(n ast.Node) bool {
		b, ok := n.(*ast.BinaryExpr)
		if !ok || b.Op != token.EQL {
			return false
		}
		_, left := b.X.(*ast.Ident)
		_, right := b.Y.(*ast.Ident)
		return left && right
	})
}

// setsBits: is something set by or, and do shifts make what?
func setsBits(n ast.Node) bool {
	f, ok := n.(*ast.File)
	return ok && anyNode(f, shift) && anyNode(f, func(n ast.Node) bool {
		a, ok := n.(*ast.AssignStmt)
		return ok && a.Tok == token.OR_ASSIGN
	})
}

// rangeOver: is there a range over a field that is named so, and an int?
func rangeOver(field string) func(ast.Node) bool {
	return func(n ast.Node) bool {
		f, ok := n.(*ast.File)
		return ok && anyNode(f, fieldNamed(field, "int")) && anyNode(f, func(n ast.Node) bool {
			r, ok := n.(*ast.RangeStmt)
			return ok && selects(field)(r.X)
		})
	}
}

// fieldNamed: has a struct a field of that name and type?
func fieldNamed(name, of string) func(ast.Node) bool {
	return func(n ast.Node) bool {
		s, ok := n.(*ast.StructType)
		return ok && slices.ContainsFunc(s.Fields.List, func(f *ast.Field) bool {
			return names(f.Type, of) && slices.ContainsFunc(f.Names, func(i *ast.Ident) bool { return i.Name == name })
		})
	}
}

// comparesFieldsByClosure: does a function literal that a name stands for look at all of those fields, and at each of two things?
func comparesFieldsByClosure(fields ...string) func(ast.Node) bool {
	return func(n ast.Node) bool {
		a, ok := n.(*ast.AssignStmt)
		return ok && slices.ContainsFunc(a.Rhs, func(e ast.Expr) bool {
			f, ok := e.(*ast.FuncLit)
			return ok && !slices.ContainsFunc(fields, func(field string) bool { return count(f.Body, selects(field)) < 2 })
		})
	}
}

// count: how many nodes below root are as is asked for.
func count(root ast.Node, has func(ast.Node) bool) int {
	n := 0
	ast.Inspect(root, func(x ast.Node) bool {
		if x != nil && has(x) {
			n++
		}
		return true
	})
	return n
}

// selects: is it a field, or a method, of that name?
func selects(name string) func(ast.Node) bool {
	return func(n ast.Node) bool {
		s, ok := n.(*ast.SelectorExpr)
		return ok && s.Sel.Name == name
	}
}

// functionField: has a struct a field of that name that is a function, and is it called through it?
func functionField(name string) func(ast.Node) bool {
	isFunction := func(n ast.Node) bool {
		s, ok := n.(*ast.StructType)
		return ok && slices.ContainsFunc(s.Fields.List, func(f *ast.Field) bool {
			_, ok := f.Type.(*ast.FuncType)
			return ok && slices.ContainsFunc(f.Names, func(i *ast.Ident) bool { return i.Name == name })
		})
	}
	isCalled := func(n ast.Node) bool {
		c, ok := n.(*ast.CallExpr)
		return ok && selects(name)(c.Fun)
	}
	return func(n ast.Node) bool {
		f, ok := n.(*ast.File)
		return ok && anyNode(f, isFunction) && anyNode(f, isCalled)
	}
}

// closureInField: is a field of that name made a function literal?
func closureInField(name string) func(ast.Node) bool {
	return func(n ast.Node) bool {
		k, ok := n.(*ast.KeyValueExpr)
		if !ok || !names(k.Key, name) {
			return false
		}
		_, ok = k.Value.(*ast.FuncLit)
		return ok
	}
}

// comparesWritten: are bytes that a call tells held against others?
func comparesWritten(n ast.Node) bool {
	c, ok := n.(*ast.CallExpr)
	if !ok || !selects("Equal")(c.Fun) {
		return false
	}
	return slices.ContainsFunc(c.Args, func(e ast.Expr) bool {
		_, ok := e.(*ast.CallExpr)
		return ok
	})
}

// switchOver: is there a switch whose cases look at all of those fields?
func switchOver(fields ...string) func(ast.Node) bool {
	return func(n ast.Node) bool {
		s, ok := n.(*ast.SwitchStmt)
		return ok && !slices.ContainsFunc(fields, func(field string) bool {
			return !slices.ContainsFunc(s.Body.List, func(c ast.Stmt) bool {
				return slices.ContainsFunc(c.(*ast.CaseClause).List, func(e ast.Expr) bool { return anyNode(e, selects(field)) })
			})
		})
	}
}

// switchOfMethods: is there a switch over that field, each case of which calls a method of its own?
func switchOfMethods(field string) func(ast.Node) bool {
	return func(n ast.Node) bool {
		s, ok := n.(*ast.SwitchStmt)
		if !ok || s.Tag == nil || !selects(field)(s.Tag) {
			return false
		}
		called := map[string]bool{}
		ast.Inspect(s.Body, func(n ast.Node) bool {
			if c, ok := n.(*ast.CallExpr); ok {
				if m, ok := c.Fun.(*ast.SelectorExpr); ok {
					called[m.Sel.Name] = true
				}
			}
			return true
		})
		return len(s.Body.List) > 1 && len(called) == len(s.Body.List)
	}
}

// mapBy: does a function make a map, and store into it by that field?
func mapBy(field string) func(ast.Node) bool {
	makesMap := func(n ast.Node) bool {
		c, ok := n.(*ast.CompositeLit)
		if !ok {
			return false
		}
		_, ok = c.Type.(*ast.MapType)
		return ok
	}
	stores := func(n ast.Node) bool {
		a, ok := n.(*ast.AssignStmt)
		return ok && slices.ContainsFunc(a.Lhs, func(e ast.Expr) bool {
			i, ok := e.(*ast.IndexExpr)
			return ok && selects(field)(i.Index)
		})
	}
	return func(n ast.Node) bool {
		f, ok := n.(*ast.FuncDecl)
		return ok && anyNode(f, makesMap) && anyNode(f, stores)
	}
}

func threeIndex(n ast.Node) bool {
	s, ok := n.(*ast.SliceExpr)
	return ok && s.Slice3
}

// threeIndexOf: is a field of that name cut so?
func threeIndexOf(field string) func(ast.Node) bool {
	return func(n ast.Node) bool { return threeIndex(n) && selects(field)(n.(*ast.SliceExpr).X) }
}

// givesClosure: is a function literal given to a call?
func givesClosure(n ast.Node) bool {
	c, ok := n.(*ast.CallExpr)
	return ok && slices.ContainsFunc(c.Args, func(e ast.Expr) bool {
		_, ok := e.(*ast.FuncLit)
		return ok
	})
}

// answersClosure: is a function literal of that argument and that answer what a function answers?
func answersClosure(argument, answer string) func(ast.Node) bool {
	of := func(l *ast.FieldList, name string) bool {
		if l == nil || len(l.List) != 1 || len(l.List[0].Names) > 1 {
			return false
		}
		one := l.List[0].Type
		return names(one, name) || selects(name)(one)
	}
	return func(n ast.Node) bool {
		r, ok := n.(*ast.ReturnStmt)
		return ok && slices.ContainsFunc(r.Results, func(e ast.Expr) bool {
			f, ok := e.(*ast.FuncLit)
			return ok && of(f.Type.Params, argument) && of(f.Type.Results, answer)
		})
	}
}

// methodsOf: is a struct of that name declared, and are there methods of it?
func methodsOf(name string) func(ast.Node) bool {
	isMethod := func(d ast.Decl) bool {
		m, ok := d.(*ast.FuncDecl)
		return ok && m.Recv != nil && anyNode(m.Recv, func(n ast.Node) bool { return names(n, name) })
	}
	return func(n ast.Node) bool {
		f, ok := n.(*ast.File)
		return ok && declaresStruct(f, ast.NewIdent(name)) && slices.ContainsFunc(f.Decls, isMethod)
	}
}

// rangeOverText: is the one argument of the function of that name a string, and gone over by a range?
func rangeOverText(function string) func(ast.Node) bool {
	return func(n ast.Node) bool {
		f, ok := n.(*ast.FuncDecl)
		if !ok || f.Recv != nil || f.Name.Name != function || len(f.Type.Params.List) != 1 {
			return false
		}
		p := f.Type.Params.List[0]
		return names(p.Type, "string") && len(p.Names) == 1 && anyNode(f.Body, func(n ast.Node) bool {
			r, ok := n.(*ast.RangeStmt)
			return ok && names(r.X, p.Names[0].Name)
		})
	}
}

// countsFrom: are there constants of which that one counts by iota, and those behind it go on so?
func countsFrom(first string) func(ast.Node) bool {
	return func(n ast.Node) bool {
		g, ok := n.(*ast.GenDecl)
		if !ok || g.Tok != token.CONST || len(g.Specs) < 2 {
			return false
		}
		one := g.Specs[0].(*ast.ValueSpec)
		return one.Names[0].Name == first && anyNode(one, func(n ast.Node) bool { return names(n, "iota") }) &&
			!slices.ContainsFunc(g.Specs[1:], func(s ast.Spec) bool { return len(s.(*ast.ValueSpec).Values) > 0 })
	}
}

// givesClosureTo: is a function literal given to a function that the file declares, which does what is asked for with an answer of what it is given?
func givesClosureTo(does func(ast.Node, func(ast.Node) bool) bool) func(ast.Node) bool {
	return func(n ast.Node) bool {
		f, ok := n.(*ast.File)
		return ok && anyNode(f, func(n ast.Node) bool {
			c, ok := n.(*ast.CallExpr)
			return ok && givesClosure(c) && calls(f, c, func(m *ast.FuncDecl) bool {
				return anyNode(m.Body, func(n ast.Node) bool { return does(n, callOfArgument(m.Type.Params)) })
			})
		})
	}
}

// callOfArgument: is it a call of one of those arguments?
func callOfArgument(l *ast.FieldList) func(ast.Node) bool {
	return func(n ast.Node) bool {
		return slices.ContainsFunc(l.List, func(p *ast.Field) bool {
			_, ok := p.Type.(*ast.FuncType)
			return ok && slices.ContainsFunc(p.Names, func(i *ast.Ident) bool { return callOf(n, i.Name) })
		})
	}
}

// addsAnswer: is something added that such a call answers?
func addsAnswer(n ast.Node, call func(ast.Node) bool) bool {
	a, ok := n.(*ast.AssignStmt)
	return ok && a.Tok == token.ADD_ASSIGN && slices.ContainsFunc(a.Rhs, func(e ast.Expr) bool { return call(e) })
}

// returnsAnswer: is what such a call answers told?
func returnsAnswer(n ast.Node, call func(ast.Node) bool) bool {
	r, ok := n.(*ast.ReturnStmt)
	return ok && anyNode(r, call)
}

// comparesField: has a struct a field of that name, of a type as is asked for, and is it held against another one?
func comparesField(field string, of func(ast.Expr) bool) func(ast.Node) bool {
	isOf := func(n ast.Node) bool {
		s, ok := n.(*ast.StructType)
		return ok && slices.ContainsFunc(s.Fields.List, func(f *ast.Field) bool {
			return of(f.Type) && slices.ContainsFunc(f.Names, func(i *ast.Ident) bool { return i.Name == field })
		})
	}
	isCompared := func(n ast.Node) bool {
		b, ok := n.(*ast.BinaryExpr)
		return ok && (b.Op == token.EQL || b.Op == token.NEQ) && (selects(field)(b.X) || selects(field)(b.Y))
	}
	return func(n ast.Node) bool {
		f, ok := n.(*ast.File)
		return ok && anyNode(f, isOf) && anyNode(f, isCompared)
	}
}

func isArray(e ast.Expr) bool {
	a, ok := e.(*ast.ArrayType)
	return ok && a.Len != nil
}

func isCommand(e ast.Expr) bool { return selects("Command")(e) }

// sortsKeys: are the keys of a field that is a map put in order?
func sortsKeys(n ast.Node) bool {
	c, ok := n.(*ast.CallExpr)
	return ok && selects("Sorted")(c.Fun) && anyNode(c, func(n ast.Node) bool {
		k, ok := n.(*ast.CallExpr)
		return ok && selects("Keys")(k.Fun) && anyNode(k.Args[0], selects("places"))
	})
}

// rangeOverMap: is a field of a struct that is a map by ints of what is named so gone over by a range?
func rangeOverMap(value string) func(ast.Node) bool {
	return func(n ast.Node) bool {
		f, ok := n.(*ast.File)
		return ok && anyNode(f, func(n ast.Node) bool {
			s, ok := n.(*ast.StructType)
			return ok && mapByInts(value)(s) && slices.ContainsFunc(s.Fields.List, func(m *ast.Field) bool {
				_, isMap := m.Type.(*ast.MapType)
				return isMap && anyNode(f, func(n ast.Node) bool {
					r, ok := n.(*ast.RangeStmt)
					return ok && selects(m.Names[0].Name)(r.X)
				})
			})
		})
	}
}

// countsByClosure: is a function literal given to a method that the file declares, which counts by a range what it says of?
func countsByClosure(n ast.Node) bool {
	f, ok := n.(*ast.File)
	return ok && slices.ContainsFunc(f.Decls, func(d ast.Decl) bool {
		m, ok := d.(*ast.FuncDecl)
		return ok && m.Recv != nil && anyNode(m.Body, func(n ast.Node) bool {
			r, ok := n.(*ast.RangeStmt)
			return ok && anyNode(r.Body, callOfArgument(m.Type.Params)) && anyNode(r.Body, func(n ast.Node) bool {
				i, ok := n.(*ast.IncDecStmt)
				return ok && i.Tok == token.INC
			})
		}) && anyNode(f, func(n ast.Node) bool {
			c, ok := n.(*ast.CallExpr)
			return ok && selects(m.Name.Name)(c.Fun) && givesClosure(c)
		})
	})
}

// goesDownByFunction: is there a range over what a function that the file declares answers, which is one that goes down?
func goesDownByFunction(n ast.Node) bool {
	answersGoingDown := func(n ast.Node) bool {
		r, ok := n.(*ast.ReturnStmt)
		return ok && len(r.Results) == 1 && anyNode(r.Results[0], func(n ast.Node) bool {
			f, ok := n.(*ast.FuncLit)
			return ok && anyNode(f.Body, func(n ast.Node) bool {
				s, ok := n.(*ast.IncDecStmt)
				return ok && s.Tok == token.DEC
			})
		})
	}
	f, ok := n.(*ast.File)
	return ok && anyNode(f, func(n ast.Node) bool {
		r, ok := n.(*ast.RangeStmt)
		if !ok {
			return false
		}
		c, ok := r.X.(*ast.CallExpr)
		return ok && calls(f, c, func(m *ast.FuncDecl) bool { return anyNode(m.Body, answersGoingDown) })
	})
}

// calls: is it a call of a function that the file declares, and that is as is asked for?
func calls(f *ast.File, c *ast.CallExpr, asked func(*ast.FuncDecl) bool) bool {
	return slices.ContainsFunc(f.Decls, func(d ast.Decl) bool {
		m, ok := d.(*ast.FuncDecl)
		return ok && m.Recv == nil && names(c.Fun, m.Name.Name) && asked(m)
	})
}

func names(n ast.Node, name string) bool {
	i, ok := n.(*ast.Ident)
	return ok && i.Name == name
}

func callOf(n ast.Node, name string) bool {
	c, ok := n.(*ast.CallExpr)
	if !ok {
		return false
	}
	f, ok := c.Fun.(*ast.Ident)
	return ok && f.Name == name
}
