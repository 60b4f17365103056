// Package op holds operations against each other and copies them, and messages that hold some: their lists make them more than values, to every layer that keeps or tells some.
package op

import (
	"slices"

	"drover/api"
)

// Same: are two operations alike in all? No steps are as an empty list of them.
func Same(a, b api.Op) bool {
	return a.Kind == b.Kind && a.Client == b.Client && a.Request == b.Request &&
		a.Def.Name == b.Def.Name && slices.Equal(a.Def.Steps, b.Def.Steps) &&
		a.Saga == b.Saga && a.Step == b.Step && a.Try == b.Try &&
		a.Back == b.Back && a.Good == b.Good
}

// Copy: o, its list of steps in new memory.
func Copy(o api.Op) api.Op {
	o.Def.Steps = slices.Clone(o.Def.Steps)
	return o
}

// Copies: the operations of l, the list and each one's steps in new memory.
func Copies(l []api.Op) []api.Op {
	l = slices.Clone(l)
	for i, o := range l {
		l[i] = Copy(o)
	}
	return l
}

// CopyMsg: m, its lists in new memory.
func CopyMsg(m api.Msg) api.Msg {
	m.Op = Copy(m.Op)
	m.Ops = Copies(m.Ops)
	m.Incs = slices.Clone(m.Incs)
	return m
}
