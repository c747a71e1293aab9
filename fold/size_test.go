package fold_test

import (
	"strconv"
	"testing"

	"shuck/api"
)

// most is how many parts may be nested.
const most = 1 << 16

// nested is a tree of a Num within so many nodes, made without calls.
func nested(deep int, layer func(at int) (above []api.Node, beside []api.Node), last api.Node) api.Tree {
	var l, behind []api.Node
	for range deep {
		above, beside := layer(len(l))
		l = append(l, above...)
		behind = append(behind, beside...)
	}
	l = append(l, last)
	for i := len(behind) - 1; i >= 0; i-- {
		l = append(l, behind[i])
	}
	return api.Tree{Nodes: l}
}

// signs is a Num within so many Unary of one sign.
func signs(sign string, deep int, last api.Node) api.Tree {
	return nested(deep, func(at int) ([]api.Node, []api.Node) {
		return []api.Node{{Kind: api.Unary, Text: sign, Kids: []int{at + 1}}}, nil
	}, last)
}

// toTheRight is so many sums, each the second part of another.
func toTheRight(deep int, last api.Node) api.Tree {
	return nested(deep, func(at int) ([]api.Node, []api.Node) {
		return []api.Node{{Kind: api.Binary, Text: "+", Kids: []int{at + 1, at + 2}}, {Kind: api.Num, Num: 1}}, nil
	}, last)
}

// toTheLeft is so many sums, each the first part of another.
func toTheLeft(deep int, last api.Node) api.Tree {
	n := 0
	return nested(deep, func(at int) ([]api.Node, []api.Node) {
		n++
		return []api.Node{{Kind: api.Binary, Text: "+", Kids: []int{at + 1, 2*deep + 1 - n}}}, []api.Node{{Kind: api.Num, Num: 1}}
	}, last)
}

// P11.1: as deep as parts may be nested; with and without a value, down at the bottom.
func TestDeep(t *testing.T) {
	one, near, x := api.Node{Kind: api.Num, Num: 1}, api.Node{Kind: api.Num, Num: api.MaxNumber - most}, api.Node{Kind: api.Name, Text: "x"}
	deeply := func(what string, x api.Tree, want int, err api.Errno) {
		t.Helper()
		if v, e := asked(t, x, 0); v != want || e != err {
			t.Errorf("%s: %d, %v, not %d, %v", what, v, e, want, err)
		}
	}
	deeply("-", signs("-", most-1, one), -1, api.OK)
	deeply("~", signs("~", most-2, one), 1, api.OK)
	deeply("- of a name", signs("-", most-1, x), 0, api.ErrType)
	deeply("to the right", toTheRight(most-1, one), most, api.OK)
	deeply("to the left", toTheLeft(most-1, one), most, api.OK)
	deeply("to the right up to the end", toTheRight(most-1, near), api.MaxNumber-1, api.OK)
	deeply("to the left beyond the end", toTheLeft(most-1, api.Node{Kind: api.Num, Num: api.MaxNumber - 5}), 0, api.ErrType)
	deeply("to the right of a name", toTheRight(most-1, x), 0, api.ErrType)
	deeply("to the left of a name", toTheLeft(most-1, x), 0, api.ErrType)
}

// P11.2: many members: one more member takes one look more, not one at each ahead of it.
func TestManyMembers(t *testing.T) {
	const count = 200000
	l := []api.Node{{Kind: api.Enum, Text: "E"}}
	for i := range count {
		l[0].Kids = append(l[0].Kids, len(l))
		l = append(l, api.Node{Kind: api.EnumMember, Text: "A" + strconv.Itoa(i), Kids: []int{len(l) + 1}}, api.Node{Kind: api.None})
	}
	x := api.Tree{Nodes: l}
	got := listed(t, x, 0)
	if got.err != api.OK || got.node != -1 || len(got.members) != count {
		t.Fatal(got.err, got.node, len(got.members))
	}
	for i, c := range got.members {
		if (c != api.Constant{Name: "A" + strconv.Itoa(i), Node: 1 + 2*i, Num: i}) {
			t.Fatal(i, c)
		}
	}
	// The last one has the Name of the first.
	l[len(l)-2].Text = "A0"
	if got := listed(t, x, 0); !got.is(answer{nil, len(l) - 2, api.ErrType}) {
		t.Error(got.err, got.node, len(got.members))
	}
}

// P11.2: a member that is as deep, and one behind it.
func TestDeepMembers(t *testing.T) {
	deep := signs("-", most-3, api.Node{Kind: api.Num, Num: 7})
	x := node(api.Enum, "E", 0, node(api.EnumMember, "A", 0, deep), node(api.EnumMember, "B", 0, none()))
	if got := listed(t, x, 0); got.err != api.OK || len(got.members) != 2 || got.members[0].Num != -7 || got.members[1].Num != -6 {
		t.Error(got)
	}
	lost := node(api.Enum, "E", 0, node(api.EnumMember, "A", 0, none()), node(api.EnumMember, "B", 0, signs("~", most-3, api.Node{Kind: api.Null})))
	if got := listed(t, lost, 0); !got.is(answer{nil, 3, api.ErrType}) {
		t.Error(got)
	}
}
