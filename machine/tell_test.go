package machine_test

import (
	"strconv"
	"strings"

	"shuck/api"
	"shuck/print"
)

// told is a tree as text; as its nodes, if it has none.
func told(x api.Tree) string {
	if b, e := print.Program(x); e == api.OK {
		return b
	}
	var l []string
	for n, node := range x.Nodes {
		var kids []string
		for _, k := range node.Kids {
			kids = append(kids, strconv.Itoa(k))
		}
		l = append(l, strconv.Itoa(n)+": "+strconv.Itoa(node.Kind)+" "+strconv.Quote(node.Text)+" "+strconv.Itoa(node.Num)+" ["+strings.Join(kids, " ")+"]")
	}
	return strings.Join(l, "\n")
}
