package core

import "shuck/api"

// isExpression tells whether a kind is one of the expressions.
func isExpression(kind int) bool {
	return kind >= api.Num && kind <= api.Bang && kind != api.Prop
}

// isType tells whether a kind is one of the types.
func isType(kind int) bool {
	return kind >= api.TypeName && kind <= api.TypeUnion && kind != api.TypeProp
}

// isTyped tells whether no node of that kind is plain.
func isTyped(kind int) bool {
	switch kind {
	case api.As, api.Bang, api.Enum, api.EnumMember, api.Namespace, api.Export, api.Interface, api.Alias, api.TypeParam, api.TypeProp:
		return true
	}
	return isType(kind)
}

// isBare tells whether a node has nothing of types and no marks in the places of its kind.
func isBare(nodes []api.Node, n int) bool {
	isEmpty := func(kid int) bool { return len(nodes[nodes[n].Kids[kid]].Kids) == 0 }
	isNone := func(kid int) bool { return nodes[nodes[n].Kids[kid]].Kind == api.None }
	switch nodes[n].Kind {
	case api.Arrow, api.Base:
		return isEmpty(0)
	case api.Func, api.Method:
		return isEmpty(0) && isNone(2)
	case api.Class:
		return isEmpty(0) && isEmpty(2)
	case api.Call, api.New:
		return isEmpty(1)
	case api.Var:
		return isNone(0)
	case api.Param:
		return isNone(0) && nodes[n].Num == 0
	case api.Field:
		return isNone(0) && nodes[n].Num == 0 && !isNone(1)
	}
	return true
}
