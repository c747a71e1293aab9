package machine_test

import (
	"shuck/api"
	"shuck/bind"
	"shuck/core"
	"shuck/erase"
	"shuck/model"
	"shuck/run"
)

// face is one of the two Programs.
type face struct {
	name    string
	call    func(t api.Tree, inputs []string, fuel, cells int) (api.Outcome, api.Errno)
	refuses func(x api.Tree) api.Errno // what is told of a tree ahead of ErrArg
}

// plain is chapter 16's.
func plain() face { return face{"run", run.Program, refusedAsPlain} }

// typed is chapter 17's.
func typed() face { return face{"model", model.Program, refusedAsTyped} }

func both() []face { return []face{plain(), typed()} }

func refusedAsPlain(x api.Tree) api.Errno {
	if _, e := core.Check(x); e != api.OK {
		return e
	}
	if x.Nodes[0].Kind != api.Program {
		return api.ErrCore
	}
	_, _, e := bind.Program(x)
	return e
}

func refusedAsTyped(x api.Tree) api.Errno {
	_, _, e := erase.Program(x)
	return e
}

func isPlain(x api.Tree) bool {
	_, e := core.Check(x)
	return e == api.OK
}

func (f face) program(x api.Tree, inputs []string, fuel, cells int) answer {
	var a answer
	a.Outcome, a.err = f.call(x, inputs, fuel, cells)
	return a
}
