package erase

import (
	"slices"
	"strings"

	"shuck/api"
)

// tree is a node and the trees that stand beneath it, not laid out yet. (Trees in rows would be copied once for each node that they stand beneath.)
type tree struct {
	node api.Node // its Kids are not looked at
	kids []tree
}

// seat is a tree that is still to be laid out, and the number of the node that it is a kid of.
type seat struct {
	tree
	above int
}

// laid is a tree with its nodes in a row. It keeps a stack of its own: trees may be deeper than calls should be.
func (t tree) laid() api.Tree {
	var l []api.Node
	stack := []seat{{t, -1}}
	for len(stack) > 0 {
		top := stack[len(stack)-1]
		stack = stack[:len(stack)-1]
		n, node := len(l), top.node
		if top.above >= 0 {
			l[top.above].Kids = append(l[top.above].Kids, n)
		}
		node.Text, node.Kids = strings.Clone(node.Text), nil
		l = append(l, node)
		for _, kid := range slices.Backward(top.kids) {
			stack = append(stack, seat{kid, n})
		}
	}
	return api.Tree{Nodes: l}
}

// place is that of a node in the text; new trees are made for it.
type place int

// tree is a new tree.
func (at place) tree(kind int, text string, kids ...tree) tree {
	return tree{api.Node{Kind: kind, Text: text, At: int(at)}, kids}
}

// constant is a Var that is Const.
func (at place) constant(name string, value tree) tree {
	t := at.tree(api.Var, name, at.tree(api.None, ""), value)
	t.node.Num = api.Const
	return t
}

// value is what a member of an Enum is.
func (at place) value(c api.Constant) tree {
	switch {
	case c.IsText:
		return at.tree(api.Str, c.Text)
	case c.Num < 0:
		return at.tree(api.Unary, "-", at.number(-c.Num))
	}
	return at.number(c.Num)
}

func (at place) number(n int) tree {
	t := at.tree(api.Num, "")
	t.node.Num = n
	return t
}
