package machine_test

import "shuck/api"

// deepest is how many parts may be nested.
const deepest = 1 << 16

// layer lays out nodes one behind the other.
type layer struct {
	l    []api.Node
	open []int // the nodes about the next one
}

func newLayer() *layer {
	r := &layer{}
	r.begin(api.Program, "")
	return r
}

// begin lays a node, beneath which the next ones stand.
func (r *layer) begin(kind int, text string) {
	n := len(r.l)
	if len(r.open) > 0 {
		above := &r.l[r.open[len(r.open)-1]]
		above.Kids = append(above.Kids, n)
	}
	r.l = append(r.l, api.Node{Kind: kind, Text: text})
	r.open = append(r.open, n)
}

// end ends so many nodes.
func (r *layer) end(count int) { r.open = r.open[:len(r.open)-count] }

// leaf lays a node beneath which nothing stands.
func (r *layer) leaf(kind int, text string) {
	r.begin(kind, text)
	r.end(1)
}

func (r *layer) leaves(count, kind int) {
	for range count {
		r.leaf(kind, "")
	}
}

func (r *layer) number(n int) {
	r.leaf(api.Num, "")
	r.l[len(r.l)-1].Num = n
}

func (r *layer) name(s string) { r.leaf(api.Name, s) }

// variable lays a Var; its value is laid by what is handed.
func (r *layer) variable(name string, value func()) {
	r.begin(api.Var, name)
	r.leaf(api.None, "")
	value()
	r.end(1)
}

func (r *layer) eval(value func()) {
	r.begin(api.Eval, "")
	value()
	r.end(1)
}

// call lays a Call; what is called, and the arguments, are laid by what is handed.
func (r *layer) call(callee, args func()) {
	r.begin(api.Call, "")
	callee()
	r.leaf(api.List, "")
	r.begin(api.List, "")
	args()
	r.end(2)
}

// print lays a statement that prints.
func (r *layer) print(args func()) {
	r.eval(func() { r.call(func() { r.name("print") }, args) })
}

// params lays the TypeParams and the Params of a function.
func (r *layer) params(names ...string) {
	r.leaf(api.List, "")
	r.begin(api.List, "")
	for _, name := range names {
		r.begin(api.Param, name)
		r.leaf(api.None, "")
		r.end(1)
	}
	r.end(1)
}

// assign lays a statement that assigns to a Name.
func (r *layer) assign(name, sign string, value func()) {
	r.eval(func() {
		r.begin(api.Assign, sign)
		r.name(name)
		value()
		r.end(1)
	})
}
