// Package part cuts trees out of others.
package part

import "shuck/api"

// Tree is the tree of a node of a tree that chapter 3 takes. Unlike chapter 3's Sub it looks at nothing else, so it may be asked of many nodes.
func Tree(nodes []api.Node, n int) api.Tree {
	last := n
	for kids := nodes[last].Kids; len(kids) > 0; kids = nodes[last].Kids {
		last = kids[len(kids)-1]
	}
	l := make([]api.Node, 0, last+1-n)
	for _, node := range nodes[n : last+1] {
		kids := make([]int, len(node.Kids))
		for i, kid := range node.Kids {
			kids[i] = kid - n
		}
		node.Kids = kids
		l = append(l, node)
	}
	return api.Tree{Nodes: l}
}
