package tests

import (
	"bytes"
	"go/ast"
	"go/format"
	"go/parser"
	"go/token"
	"os"
	"path/filepath"
	"strings"
	"testing"
)

// allowedImports are those that the language page names.
const allowedImports = " bytes cmp container/heap errors iter maps math math/bits slices sort strconv strings sync sync/atomic unicode unicode/utf8 "

const mostLines = 60

func parsed(t *testing.T, fset *token.FileSet, path string) *ast.File {
	t.Helper()
	file, err := parser.ParseFile(fset, path, nil, parser.ParseComments)
	if err != nil {
		t.Fatal(err)
	}
	return file
}

func programFiles(t *testing.T) []string {
	t.Helper()
	paths, err := filepath.Glob("../impl/*.go")
	if err != nil || len(paths) != 14 {
		t.Fatalf("a file a layer: there are %d (%v)", len(paths), err)
	}
	return paths
}

func TestProgramKeepsToTheLanguage(t *testing.T) {
	fset := token.NewFileSet()
	for _, path := range programFiles(t) {
		file := parsed(t, fset, path)
		for _, i := range file.Imports {
			if name := strings.Trim(i.Path.Value, "\""); !strings.Contains(allowedImports, " "+name+" ") {
				t.Errorf("%s imports %s", path, name)
			}
		}
		for _, d := range file.Decls {
			f, ok := d.(*ast.FuncDecl)
			if ok && fset.Position(f.End()).Line-fset.Position(f.Pos()).Line+1 > mostLines {
				t.Errorf("%s: %s has more than %d lines", path, f.Name.Name, mostLines)
			}
		}
		source, err := os.ReadFile(path)
		if err != nil {
			t.Fatal(err)
		}
		if laid, err := format.Source(source); err != nil || !bytes.Equal(laid, source) {
			t.Errorf("%s has not gofmt's layout (%v)", path, err)
		}
	}
}

func TestWayOfBytes(t *testing.T) {
	closures, variadics := 0, 0
	ast.Inspect(parsed(t, token.NewFileSet(), "../impl/l01_field.go"), func(n ast.Node) bool {
		switch x := n.(type) {
		case *ast.FuncLit:
			closures++
		case *ast.Ellipsis:
			if x.Elt != nil {
				variadics++
			}
		}
		return true
	})
	if closures == 0 || variadics == 0 {
		t.Errorf("products by a closure: %d, bounds to a variadic function: %d", closures, variadics)
	}
}

func TestWayOfKeys(t *testing.T) {
	pointed, maps := 0, 0
	ast.Inspect(parsed(t, token.NewFileSet(), "../impl/l04_ring.go"), func(n ast.Node) bool {
		switch x := n.(type) {
		case *ast.FuncDecl:
			if x.Recv != nil {
				if _, ok := x.Recv.List[0].Type.(*ast.StarExpr); ok {
					pointed++
				}
			}
		case *ast.MapType:
			maps++
		}
		return true
	})
	if pointed == 0 || maps == 0 {
		t.Errorf("a ring that is pointed at: %d, keys in a map: %d", pointed, maps)
	}
}

// TestWayOfEnvelopes looks for a struct that embeds another one of the file, and for a call of what that promotes.
func TestWayOfEnvelopes(t *testing.T) {
	file := parsed(t, token.NewFileSet(), "../impl/l05_envelope.go")
	embedded, promoted, calls := map[string]bool{}, map[string]bool{}, 0
	ast.Inspect(file, func(n ast.Node) bool {
		if x, ok := n.(*ast.StructType); ok {
			for _, f := range x.Fields.List {
				if name, ok := f.Type.(*ast.Ident); ok && len(f.Names) == 0 {
					embedded[name.Name] = true
				}
			}
		}
		return true
	})
	for _, d := range file.Decls {
		f, ok := d.(*ast.FuncDecl)
		if !ok || f.Recv == nil {
			continue
		}
		if of, ok := f.Recv.List[0].Type.(*ast.Ident); ok && embedded[of.Name] {
			promoted[f.Name.Name] = true
		}
	}
	for _, d := range file.Decls {
		f, ok := d.(*ast.FuncDecl)
		if !ok || f.Recv == nil {
			continue
		}
		// A method of the outer one that calls such a method by its own receiver calls what is promoted.
		of, named := f.Recv.List[0].Type.(*ast.Ident)
		ast.Inspect(f, func(n ast.Node) bool {
			if x, ok := n.(*ast.SelectorExpr); ok && named && !embedded[of.Name] && promoted[x.Sel.Name] {
				calls++
			}
			return true
		})
	}
	if len(embedded) == 0 || len(promoted) == 0 || calls == 0 {
		t.Errorf("what all have is embedded: %v, its methods: %v, calls of what is promoted: %d", embedded, promoted, calls)
	}
}

// TestWayOfWindows looks for a map whose keys are a struct of the file, and for a delete from a map.
func TestWayOfWindows(t *testing.T) {
	file := parsed(t, token.NewFileSet(), "../impl/l06_replay.go")
	structs, sets, deletes := map[string]bool{}, 0, 0
	ast.Inspect(file, func(n ast.Node) bool {
		if x, ok := n.(*ast.TypeSpec); ok {
			_, structs[x.Name.Name] = x.Type.(*ast.StructType)
		}
		return true
	})
	ast.Inspect(file, func(n ast.Node) bool {
		switch x := n.(type) {
		case *ast.MapType:
			if key, ok := x.Key.(*ast.Ident); ok && structs[key.Name] {
				sets++
			}
		case *ast.CallExpr:
			if called, ok := x.Fun.(*ast.Ident); ok && called.Name == "delete" {
				deletes++
			}
		}
		return true
	})
	if sets == 0 || deletes == 0 {
		t.Errorf("sets of keys that are structs: %d, deletes: %d", sets, deletes)
	}
}

// TestWayOfMessages looks for an interface with methods, for a switch over the types that are one, and for the kinds by
// iota.
func TestWayOfMessages(t *testing.T) {
	faces, switched, kinds := 0, 0, map[string]bool{}
	ast.Inspect(parsed(t, token.NewFileSet(), "../impl/l07_wire.go"), func(n ast.Node) bool {
		switch x := n.(type) {
		case *ast.InterfaceType:
			if len(x.Methods.List) > 0 {
				faces++
			}
		case *ast.TypeSwitchStmt:
			switched = max(switched, len(x.Body.List))
		case *ast.GenDecl:
			if x.Tok == token.CONST && usesIota(x) {
				for _, s := range x.Specs {
					kinds[s.(*ast.ValueSpec).Names[0].Name] = true
				}
			}
		}
		return true
	})
	for _, kind := range []string{"MsgPing", "MsgAck", "MsgAsk", "MsgClaim", "MsgKey"} {
		if !kinds[kind] {
			t.Errorf("%s is no constant by iota", kind)
		}
	}
	if faces == 0 || switched < len(kinds) {
		t.Errorf("messages that are an interface: %d, types that are told apart by a switch: %d", faces, switched)
	}
}

// TestWayOfViews looks for a generic function that is told two lists of one kind and answers such a list, and for a call
// of it in what both merges reach.
func TestWayOfViews(t *testing.T) {
	file := parsed(t, token.NewFileSet(), "../impl/l08_view.go")
	merges, calls := map[string]bool{}, map[string]map[string]bool{}
	for _, d := range file.Decls {
		f, ok := d.(*ast.FuncDecl)
		if !ok {
			continue
		}
		if f.Type.TypeParams != nil && listsOf(f.Type.Params) >= 2 && listsOf(f.Type.Results) >= 1 {
			merges[f.Name.Name] = true
		}
		calls[f.Name.Name] = calledBy(f)
	}
	for _, name := range []string{"MergeClaim", "MergeViews"} {
		reached, reaches := []string{name}, false
		seen := map[string]bool{name: true}
		for len(reached) > 0 {
			next := reached[0]
			reached, reaches = reached[1:], reaches || merges[next]
			for called := range calls[next] {
				if !seen[called] {
					seen[called], reached = true, append(reached, called)
				}
			}
		}
		if !reaches {
			t.Errorf("%s reaches no generic function that merges: there are %v", name, merges)
		}
	}
}

// TestWayOfRules looks for a list that is ranged over by the integer of its length, and for loops that are left by their
// labels: each such label stands at a loop.
func TestWayOfRules(t *testing.T) {
	ranges, loops, left := 0, map[string]bool{}, map[string]int{}
	ast.Inspect(parsed(t, token.NewFileSet(), "../impl/l09_rule.go"), func(n ast.Node) bool {
		switch x := n.(type) {
		case *ast.RangeStmt:
			if length, ok := x.X.(*ast.CallExpr); ok {
				if name, ok := length.Fun.(*ast.Ident); ok && name.Name == "len" {
					ranges++
				}
			}
		case *ast.LabeledStmt:
			switch x.Stmt.(type) {
			case *ast.RangeStmt, *ast.ForStmt:
				loops[x.Label.Name] = true
			}
		case *ast.BranchStmt:
			if x.Tok == token.BREAK && x.Label != nil {
				left[x.Label.Name]++
			}
		}
		return true
	})
	for label := range left {
		if !loops[label] {
			t.Errorf("%s is left, and no loop", label)
		}
	}
	if ranges == 0 || len(left) == 0 {
		t.Errorf("waits that are ranged over by an integer: %d, loops that are left by their labels: %v", ranges, left)
	}
}

// TestWayOfNames looks for jumps back by goto, and for an error of the file's own that is asked by errors.As.
func TestWayOfNames(t *testing.T) {
	labels, jumps := map[string]token.Pos{}, map[string]token.Pos{}
	errorsOfItsOwn, vars, asked := map[string]bool{}, map[string]string{}, 0
	file := parsed(t, token.NewFileSet(), "../impl/l10_dns.go")
	ast.Inspect(file, func(n ast.Node) bool {
		switch x := n.(type) {
		case *ast.LabeledStmt:
			labels[x.Label.Name] = x.Pos()
		case *ast.BranchStmt:
			if x.Tok == token.GOTO {
				jumps[x.Label.Name] = x.Pos()
			}
		case *ast.FuncDecl:
			if of := receiverOf(x); x.Name.Name == "Error" && of != "" {
				errorsOfItsOwn[of] = true
			}
		case *ast.ValueSpec:
			if of, ok := x.Type.(*ast.Ident); ok {
				vars[x.Names[0].Name] = of.Name
			}
		}
		return true
	})
	ast.Inspect(file, func(n ast.Node) bool {
		if x, ok := n.(*ast.CallExpr); ok && isErrorsCall(x, "As", 2) {
			if found, ok := x.Args[1].(*ast.UnaryExpr); ok {
				if name, ok := found.X.(*ast.Ident); ok && errorsOfItsOwn[vars[name.Name]] {
					asked++
				}
			}
		}
		return true
	})
	for label, at := range jumps {
		if labels[label] >= at {
			t.Errorf("the goto to %s does not jump back", label)
		}
	}
	if len(jumps) == 0 || asked == 0 {
		t.Errorf("jumps by goto: %d, errors of its own that are asked by errors.As: %d of %v", len(jumps), asked, errorsOfItsOwn)
	}
}

// TestWayOfNodes looks for a channel that is made with room, for a select that takes of one, and for sentinels, each of
// which is asked by errors.Is.
func TestWayOfNodes(t *testing.T) {
	channels, sentinels, asked, withRoom, taken := map[string]bool{}, map[string]bool{}, map[string]bool{}, 0, 0
	file := parsed(t, token.NewFileSet(), "../impl/l11_world.go")
	ast.Inspect(file, func(n ast.Node) bool {
		switch x := n.(type) {
		case *ast.TypeSpec:
			_, channels[x.Name.Name] = x.Type.(*ast.ChanType)
		case *ast.SelectStmt:
			taken += receivedIn(x)
		case *ast.CallExpr:
			if isErrorsCall(x, "Is", 2) {
				if name, ok := x.Args[1].(*ast.Ident); ok {
					asked[name.Name] = true
				}
			}
		}
		return true
	})
	for _, d := range file.Decls {
		group, ok := d.(*ast.GenDecl)
		if !ok || group.Tok != token.VAR {
			continue
		}
		for _, s := range group.Specs {
			made, ok := s.(*ast.ValueSpec).Values[0].(*ast.CallExpr)
			sentinels[s.(*ast.ValueSpec).Names[0].Name] = ok && isErrorsCall(made, "New", 1)
		}
	}
	ast.Inspect(file, func(n ast.Node) bool {
		if x, ok := n.(*ast.CallExpr); ok && len(x.Args) == 2 {
			called, isName := x.Fun.(*ast.Ident)
			of, isNamed := x.Args[0].(*ast.Ident)
			if isName && isNamed && called.Name == "make" && channels[of.Name] {
				withRoom++
			}
		}
		return true
	})
	for name, isSentinel := range sentinels {
		if !isSentinel || !asked[name] {
			t.Errorf("%s is no sentinel that is asked by errors.Is", name)
		}
	}
	if withRoom == 0 || taken == 0 || len(sentinels) == 0 {
		t.Errorf("channels with room: %d, what is taken by select: %d, sentinels: %v", withRoom, taken, sentinels)
	}
}

// receivedIn counts the cases of a select that take of a channel.
func receivedIn(s *ast.SelectStmt) int {
	count := 0
	for _, c := range s.Body.List {
		var taken ast.Expr
		switch x := c.(*ast.CommClause).Comm.(type) {
		case *ast.AssignStmt:
			taken = x.Rhs[0]
		case *ast.ExprStmt:
			taken = x.X
		}
		if arrow, ok := taken.(*ast.UnaryExpr); ok && arrow.Op == token.ARROW {
			count++
		}
	}
	return count
}

// receiverOf is the type that a method is of, pointed at or not, or "".
func receiverOf(f *ast.FuncDecl) string {
	if f.Recv == nil {
		return ""
	}
	of := f.Recv.List[0].Type
	if star, ok := of.(*ast.StarExpr); ok {
		of = star.X
	}
	if name, ok := of.(*ast.Ident); ok {
		return name.Name
	}
	return ""
}

func isErrorsCall(call *ast.CallExpr, name string, count int) bool {
	called, ok := call.Fun.(*ast.SelectorExpr)
	if !ok || called.Sel.Name != name || len(call.Args) != count {
		return false
	}
	from, ok := called.X.(*ast.Ident)
	return ok && from.Name == "errors"
}

// listsOf counts the lists among parameters or results.
func listsOf(fields *ast.FieldList) int {
	count := 0
	if fields == nil {
		return count
	}
	for _, f := range fields.List {
		if list, ok := f.Type.(*ast.ArrayType); ok && list.Len == nil {
			count += max(len(f.Names), 1)
		}
	}
	return count
}

func calledBy(f *ast.FuncDecl) map[string]bool {
	called := map[string]bool{}
	ast.Inspect(f, func(n ast.Node) bool {
		if x, ok := n.(*ast.CallExpr); ok {
			if name, ok := x.Fun.(*ast.Ident); ok {
				called[name.Name] = true
			}
		}
		return true
	})
	return called
}

func usesIota(group *ast.GenDecl) bool {
	uses := false
	ast.Inspect(group, func(n ast.Node) bool {
		if name, ok := n.(*ast.Ident); ok && name.Name == "iota" {
			uses = true
		}
		return true
	})
	return uses
}
