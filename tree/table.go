package tree

import "shuck/api"

// place is what a place for a kid takes: whether it takes the node of that number.
type place func(l []api.Node, n int) bool

// row is a line of the table of kinds. What it leaves nil the kind does not have.
type row struct {
	text func(string) bool
	num  func(int) bool
	kids [4]place                            // just those, in that order
	more place                               // any number of them
	all  func(l []api.Node, kids []int) bool // what the kids must be together, beside
}

// fits tells whether a node is as the table says, with its kids' kinds.
func fits(l []api.Node, n int) bool {
	r, ok := table(l[n].Kind)
	return ok && r.takesText(l[n].Text) && r.takesNum(l[n].Num) && r.takesKids(l, l[n].Kids)
}

func (r row) takesText(s string) bool {
	if r.text == nil {
		return s == ""
	}
	return r.text(s)
}

func (r row) takesNum(n int) bool {
	if r.num == nil {
		return n == 0
	}
	return r.num(n)
}

func (r row) takesKids(l []api.Node, kids []int) bool {
	for i, k := range kids {
		p := r.placeOf(i)
		if p == nil || !within(l, k) || !p(l, k) {
			return false
		}
	}
	if r.more == nil && r.placeOf(len(kids)) != nil {
		return false
	}
	return r.all == nil || r.all(l, kids)
}

// placeOf is the place of a kid; nil, if there is none so far back.
func (r row) placeOf(i int) place {
	if r.more != nil {
		return r.more
	}
	if i < len(r.kids) {
		return r.kids[i]
	}
	return nil
}

// table is the row of a kind, if it is one.
func table(kind int) (row, bool) {
	switch kind {
	case api.None:
		return row{}, true
	case api.List:
		return row{more: anyNode}, true
	case api.Program:
		return row{more: stmt}, true
	case api.TypeName:
		return row{text: typeNameText, kids: [4]place{types}}, true
	case api.TypeNum:
		return row{num: signedNumber}, true
	case api.TypeStr:
		return row{text: goodText}, true
	case api.TypeArray:
		return row{kids: [4]place{typ}}, true
	case api.TypeObject:
		return row{more: typeProp}, true
	case api.TypeProp:
		return row{text: name, num: noneOrOptional, kids: [4]place{typ}}, true
	case api.TypeFunc:
		return row{kids: [4]place{params, typ}}, true
	case api.TypeUnion:
		return row{more: typ, all: twoOrMore}, true
	}
	return exprTable(kind)
}

// exprTable is the table from the expressions and their parts on.
func exprTable(kind int) (row, bool) {
	switch kind {
	case api.Num:
		return row{num: number}, true
	case api.Str:
		return row{text: goodText}, true
	case api.Template:
		return row{more: expr, all: pieces}, true
	case api.True, api.False, api.Null, api.Undefined, api.This:
		return row{}, true
	case api.Name, api.SuperMember:
		return row{text: name}, true
	case api.Array:
		return row{more: expr}, true
	case api.Object:
		return row{more: prop}, true
	case api.Prop, api.Member:
		return row{text: name, kids: [4]place{expr}}, true
	case api.Arrow:
		return row{kids: [4]place{typeParams, params, blockOrExpr}}, true
	case api.Unary:
		return row{text: unarySign, kids: [4]place{expr}}, true
	case api.Binary:
		return row{text: binarySign, kids: [4]place{expr, expr}}, true
	case api.Cond:
		return row{kids: [4]place{expr, expr, expr}}, true
	case api.Assign:
		return row{text: assignSign, kids: [4]place{assigned, expr}}, true
	case api.Call:
		return row{kids: [4]place{expr, types, exprs}}, true
	case api.New:
		return row{kids: [4]place{membersOverName, types, exprs}}, true
	case api.Index:
		return row{kids: [4]place{expr, expr}}, true
	case api.Super:
		return row{kids: [4]place{exprs}}, true
	case api.As:
		return row{kids: [4]place{expr, typ}}, true
	case api.Bang:
		return row{kids: [4]place{expr}}, true
	}
	return stmtTable(kind)
}

// stmtTable is the table from the statements and their parts on.
func stmtTable(kind int) (row, bool) {
	switch kind {
	case api.Var:
		return row{text: name, num: letOrConst, kids: [4]place{typeOrNone, expr}}, true
	case api.Func, api.Method:
		return row{text: name, kids: [4]place{typeParams, params, typeOrNone, block}}, true
	case api.Class:
		return row{text: name, kids: [4]place{typeParams, baseOrNone, typeNames, members}}, true
	case api.Base:
		return row{text: name, kids: [4]place{types}}, true
	case api.Field:
		return row{text: name, num: noneOrReadonly, kids: [4]place{typeOrNone, exprOrNone}}, true
	case api.Ctor:
		return row{kids: [4]place{markedParams, block}}, true
	case api.Enum:
		return row{text: name, num: noneOrConst, more: enumMember}, true
	case api.EnumMember:
		return row{text: name, kids: [4]place{exprOrNone}}, true
	case api.Namespace:
		return row{text: name, more: stmtOrExport}, true
	case api.Export:
		return row{kids: [4]place{exported}}, true
	case api.Interface:
		return row{text: name, kids: [4]place{typeParams, typeNames, typeObject}}, true
	case api.Alias:
		return row{text: name, kids: [4]place{typeParams, typ}}, true
	case api.If:
		return row{kids: [4]place{expr, block, elseOrNone}}, true
	case api.While:
		return row{kids: [4]place{expr, block}}, true
	case api.For:
		return row{kids: [4]place{letOrNone, exprOrNone, exprOrNone, block}}, true
	case api.ForOf:
		return row{text: name, num: letOrConst, kids: [4]place{expr, block}}, true
	case api.Return:
		return row{kids: [4]place{exprOrNone}}, true
	case api.Break, api.Continue, api.Empty:
		return row{}, true
	case api.Throw, api.Eval:
		return row{kids: [4]place{expr}}, true
	case api.Try:
		return row{kids: [4]place{block, catchOrNone, blockOrNone}, all: catchOrFinally}, true
	case api.Catch:
		return row{text: name, kids: [4]place{block}}, true
	case api.Block:
		return row{more: stmt}, true
	case api.Param:
		return row{text: name, num: marks, kids: [4]place{typeOrNone}}, true
	case api.TypeParam:
		return row{text: name}, true
	}
	return row{}, false
}
