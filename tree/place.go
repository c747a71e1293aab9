package tree

import "shuck/api"

// within tells whether a number is that of a node.
func within(l []api.Node, n int) bool { return n >= 0 && n < len(l) }

func isExpr(kind int) bool { return kind >= api.Num && kind <= api.Bang && kind != api.Prop }

func isType(kind int) bool {
	return kind >= api.TypeName && kind <= api.TypeUnion && kind != api.TypeProp
}

func isStmt(kind int) bool {
	switch kind {
	case api.Var, api.Func, api.Class, api.Enum, api.Namespace, api.Interface, api.Alias,
		api.If, api.While, api.For, api.ForOf, api.Return, api.Break, api.Continue, api.Throw,
		api.Try, api.Block, api.Eval, api.Empty:
		return true
	}
	return false
}

// What follows are places: each takes the nodes of its name.

func anyNode(l []api.Node, n int) bool    { return true }
func none(l []api.Node, n int) bool       { return l[n].Kind == api.None }
func expr(l []api.Node, n int) bool       { return isExpr(l[n].Kind) }
func stmt(l []api.Node, n int) bool       { return isStmt(l[n].Kind) }
func typ(l []api.Node, n int) bool        { return isType(l[n].Kind) }
func block(l []api.Node, n int) bool      { return l[n].Kind == api.Block }
func prop(l []api.Node, n int) bool       { return l[n].Kind == api.Prop }
func enumMember(l []api.Node, n int) bool { return l[n].Kind == api.EnumMember }
func typeParam(l []api.Node, n int) bool  { return l[n].Kind == api.TypeParam }
func typeName(l []api.Node, n int) bool   { return l[n].Kind == api.TypeName }
func typeObject(l []api.Node, n int) bool { return l[n].Kind == api.TypeObject }
func typeProp(l []api.Node, n int) bool   { return l[n].Kind == api.TypeProp }

// A param has no mark of a member; a markedParam may have each.
func param(l []api.Node, n int) bool       { return l[n].Kind == api.Param && noneOrOptional(l[n].Num) }
func markedParam(l []api.Node, n int) bool { return l[n].Kind == api.Param }

func blockOrExpr(l []api.Node, n int) bool  { return block(l, n) || expr(l, n) }
func stmtOrExport(l []api.Node, n int) bool { return stmt(l, n) || l[n].Kind == api.Export }

func exprOrNone(l []api.Node, n int) bool  { return expr(l, n) || none(l, n) }
func typeOrNone(l []api.Node, n int) bool  { return typ(l, n) || none(l, n) }
func blockOrNone(l []api.Node, n int) bool { return block(l, n) || none(l, n) }
func baseOrNone(l []api.Node, n int) bool  { return l[n].Kind == api.Base || none(l, n) }
func catchOrNone(l []api.Node, n int) bool { return l[n].Kind == api.Catch || none(l, n) }
func elseOrNone(l []api.Node, n int) bool  { return l[n].Kind == api.If || blockOrNone(l, n) }

func letOrNone(l []api.Node, n int) bool {
	return l[n].Kind == api.Var && l[n].Num == api.Let || none(l, n)
}

// assigned takes what a value may be assigned to.
func assigned(l []api.Node, n int) bool {
	switch l[n].Kind {
	case api.Name, api.Member, api.Index:
		return true
	}
	return false
}

// membersOverName takes a Name too: that is one with no Member over it.
func membersOverName(l []api.Node, n int) bool {
	// As many steps as there are nodes: Members that go round never come to a Name.
	for range l {
		kids := l[n].Kids
		if l[n].Kind != api.Member || len(kids) != 1 || !within(l, kids[0]) {
			break
		}
		n = kids[0]
	}
	return l[n].Kind == api.Name
}

func exported(l []api.Node, n int) bool {
	switch l[n].Kind {
	case api.Var:
		return l[n].Num == api.Const
	case api.Enum:
		return l[n].Num != api.Const
	case api.Func, api.Class, api.Namespace, api.Interface, api.Alias:
		return true
	}
	return false
}

// Places of Lists.

func exprs(l []api.Node, n int) bool        { return list(l, n, expr) }
func types(l []api.Node, n int) bool        { return list(l, n, typ) }
func typeNames(l []api.Node, n int) bool    { return list(l, n, typeName) }
func typeParams(l []api.Node, n int) bool   { return list(l, n, typeParam) }
func params(l []api.Node, n int) bool       { return list(l, n, param) }
func markedParams(l []api.Node, n int) bool { return list(l, n, markedParam) }

// list tells whether a node is a List whose kids are each taken by a place.
func list(l []api.Node, n int, takes place) bool {
	if l[n].Kind != api.List {
		return false
	}
	for _, k := range l[n].Kids {
		if !within(l, k) || !takes(l, k) {
			return false
		}
	}
	return true
}

// members takes a List of a Class's parts, one Ctor among them at most.
func members(l []api.Node, n int) bool {
	ctors := 0
	return list(l, n, func(l []api.Node, k int) bool {
		switch l[k].Kind {
		case api.Field, api.Method:
			return true
		case api.Ctor:
			ctors++
			return ctors == 1
		}
		return false
	})
}

// What kids must be together.

func twoOrMore(_ []api.Node, kids []int) bool { return len(kids) >= 2 }

// pieces tells whether kids are texts with one expression between each two.
func pieces(l []api.Node, kids []int) bool {
	for i := 0; i < len(kids); i += 2 {
		if l[kids[i]].Kind != api.Str {
			return false
		}
	}
	return len(kids)%2 == 1
}

// catchOrFinally tells whether a Try has one of the two at least.
func catchOrFinally(l []api.Node, kids []int) bool {
	return !none(l, kids[1]) || !none(l, kids[2])
}
