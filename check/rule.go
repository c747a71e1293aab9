package check

import "shuck/api"

// rules is what is done with a node of each kind.
type rules struct {
	expression [api.Bang + 1]func(n int) int
	statement  [api.Empty + 1]func(n int)
}

func (c *checker) newRules() rules {
	return rules{
		expression: [api.Bang + 1]func(n int) int{
			api.Num:         c.ofNum,
			api.Str:         c.ofStr,
			api.Template:    c.ofTemplate,
			api.True:        c.ofTrue,
			api.False:       c.ofFalse,
			api.Null:        c.ofNull,
			api.Undefined:   c.ofUndefined,
			api.Name:        c.ofName,
			api.This:        c.ofThis,
			api.Array:       c.ofArray,
			api.Object:      c.ofObject,
			api.Arrow:       c.ofArrow,
			api.Unary:       c.ofUnary,
			api.Binary:      c.ofBinary,
			api.Cond:        c.ofCond,
			api.Assign:      c.ofAssign,
			api.Call:        c.ofCall,
			api.New:         c.ofNew,
			api.Member:      c.ofMember,
			api.Index:       c.ofIndex,
			api.Super:       c.ofSuper,
			api.SuperMember: c.ofSuperMember,
			api.As:          c.ofAs,
			api.Bang:        c.ofBang,
		},
		statement: [api.Empty + 1]func(n int){
			api.Var:       c.ofVar,
			api.Func:      c.ofFunc,
			api.Class:     c.ofClass,
			api.Field:     c.ofField,
			api.Method:    c.ofMethod,
			api.Ctor:      c.ofCtor,
			api.Enum:      c.ofEnum,
			api.Namespace: c.inOrder,
			api.Interface: c.nothing,
			api.Alias:     c.nothing,
			api.If:        c.ofIf,
			api.While:     c.ofWhile,
			api.For:       c.ofFor,
			api.ForOf:     c.ofForOf,
			api.Return:    c.ofReturn,
			api.Break:     c.ofJump,
			api.Continue:  c.ofJump,
			api.Throw:     c.ofThrow,
			api.Try:       c.ofTry,
			api.Block:     c.inOrder,
			api.Eval:      c.ofEval,
			api.Empty:     c.nothing,
		},
	}
}

// expr is the type of an expression, by the rule of its kind.
func (c *checker) expr(n int) int {
	id := c.rules.expression[c.kind(n)](n)
	c.types[n] = id + 1
	return id
}

// each is the types of a node's kids, in order.
func (c *checker) each(n int) []int {
	kids := c.nodes[n].Kids
	ids := make([]int, len(kids))
	for i, kid := range kids {
		ids[i] = c.expr(kid)
	}
	return ids
}
