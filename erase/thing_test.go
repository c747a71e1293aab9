package erase_test

import (
	"strconv"
	"strings"

	"shuck/api"
)

// thing is a node with its kids in it.
type thing struct {
	kind    int
	text    string
	num, at int
	kids    []*thing
}

// thingOf is the thing of a node.
func thingOf(x api.Tree, n int) *thing {
	node := x.Nodes[n]
	y := &thing{kind: node.Kind, text: node.Text, num: node.Num, at: node.At}
	for _, kid := range node.Kids {
		y.kids = append(y.kids, thingOf(x, kid))
	}
	return y
}

// lay is the tree of a thing, and the things of its nodes.
func lay(y *thing) (api.Tree, []*thing) {
	var nodes []api.Node
	var things []*thing
	var put func(y *thing)
	put = func(y *thing) {
		n := len(nodes)
		nodes = append(nodes, api.Node{Kind: y.kind, Text: y.text, Num: y.num, At: y.at})
		things = append(things, y)
		for _, kid := range y.kids {
			nodes[n].Kids = append(nodes[n].Kids, len(nodes))
			put(kid)
		}
	}
	put(y)
	return api.Tree{Nodes: nodes}, things
}

// numbered is a tree whose nodes have three times their numbers as At.
func numbered(x api.Tree) api.Tree {
	return turned(x, func(l []api.Node) {
		for n := range l {
			l[n].At = 3 * n
		}
	})
}

// word is the document's word of a kind.
func word(kind int) string {
	for w, k := range kindOf {
		if k == kind {
			return w
		}
	}
	return strconv.Itoa(kind)
}

// told is a tree in one line: of each node its word, its Text, its Num (if it is not 0), its At, its kids.
func told(x api.Tree) string {
	var tell func(n int) string
	tell = func(n int) string {
		node := x.Nodes[n]
		s := word(node.Kind)
		if node.Text != "" {
			s += " " + node.Text
		}
		if node.Num != 0 {
			s += " " + strconv.Itoa(node.Num)
		}
		s += "@" + strconv.Itoa(node.At)
		var kids []string
		for _, kid := range node.Kids {
			kids = append(kids, tell(kid))
		}
		if len(kids) > 0 {
			s += " [" + strings.Join(kids, ", ") + "]"
		}
		return s
	}
	if len(x.Nodes) == 0 {
		return "none"
	}
	return tell(0)
}
