package op_test

import (
	"reflect"
	"slices"
	"testing"

	"drover/api"
	"drover/op"
)

// whole: an operation with something in each field, made anew by each call.
func whole() api.Op {
	return api.Op{
		Kind: 1, Client: 2, Request: 3, Saga: 4, Step: 5, Try: 6, Back: true, Good: true,
		Def: api.Def{Name: "name", Steps: []api.Step{
			{Name: "one", Stub: 7, Retry: 8, Wait: 9, Undo: true, Pivot: true},
			{Name: "two", Stub: 10, Retry: 11, Wait: 12, Undo: true, Pivot: true},
		}},
	}
}

// Each number and text is looked at by the tests of the layers that tell whether things are alike; here it is one of each kind.
func TestSame(t *testing.T) {
	if !op.Same(whole(), whole()) || !op.Same(api.Op{}, api.Op{}) {
		t.Error("an operation is not the Same as itself")
	}
	for _, change := range []func(o *api.Op){
		func(o *api.Op) { o.Saga += 1 << 32 },
		func(o *api.Op) { o.Good = false },
		func(o *api.Op) { o.Def.Name = "" },
		func(o *api.Op) { o.Def.Steps[1].Wait++ },
	} {
		o := whole()
		change(&o)
		if op.Same(o, whole()) || op.Same(whole(), o) {
			t.Errorf("%v is the Same as %v", o, whole())
		}
	}
}

func TestSameLooksAtHowManyStepsThereAre(t *testing.T) {
	for n := range 2 {
		o := whole()
		o.Def.Steps = o.Def.Steps[:n]
		if op.Same(o, whole()) || op.Same(whole(), o) {
			t.Errorf("%d steps are the Same as two", n)
		}
	}
	none, empty := whole(), whole()
	none.Def.Steps, empty.Def.Steps = nil, []api.Step{}
	if !op.Same(none, empty) || !op.Same(empty, none) {
		t.Error("no steps are not the Same as an empty list of them")
	}
}

func TestCopiesAreNewMemory(t *testing.T) {
	shared := whole()
	l := []api.Op{shared, shared, {}}
	for _, c := range [][]api.Op{op.Copies(l), {op.Copy(l[0]), op.Copy(l[1]), op.Copy(l[2])}} {
		if !reflect.DeepEqual(c, []api.Op{whole(), whole(), {}}) {
			t.Fatalf("the copies are %v", c)
		}
		steps := c[0].Def.Steps[:cap(c[0].Def.Steps)]
		for i := range steps {
			steps[i] = api.Step{Name: "other"}
		}
		c[2] = api.Op{Kind: 99}
		if !reflect.DeepEqual(c[1], whole()) || !reflect.DeepEqual(l, []api.Op{whole(), whole(), {}}) {
			t.Errorf("a copy that was written over shares memory: %v, %v", c, l)
		}
	}
	if len(op.Copies(nil)) != 0 || !slices.EqualFunc(op.Copies([]api.Op{{}}), []api.Op{{}}, op.Same) {
		t.Error("Copies of none, or of an empty one, are others")
	}
}

func TestCopyMsgIsNewMemory(t *testing.T) {
	few := []api.Step{{Name: "one", Stub: 1}, {Name: "two", Stub: 2}}
	shared := api.Op{Kind: 1, Def: api.Def{Steps: few}}
	made := func() api.Msg {
		few := slices.Clone(few)
		o := shared
		o.Def.Steps = few
		return api.Msg{Kind: 7, From: 1, To: 2, View: 3, Lead: true, Op: o, Ops: []api.Op{o, o, {}}, Incs: []int{4, 5}, Reply: api.Reply{Saga: 6}, Command: api.Command{Try: 8}}
	}
	m := made()
	c, other := op.CopyMsg(m), op.CopyMsg(m)
	if !reflect.DeepEqual(c, made()) {
		t.Fatalf("the copy is %v", c)
	}
	lists := [][]api.Step{c.Op.Def.Steps, c.Ops[0].Def.Steps, c.Ops[1].Def.Steps}
	for i, l := range lists {
		for j := range l[:cap(l)] {
			l[:cap(l)][j] = api.Step{Name: "other"}
		}
		for _, rest := range lists[i+1:] {
			if !slices.Equal(rest, few) {
				t.Errorf("list %d that was written over shares memory: %v", i, lists)
			}
		}
	}
	c.Ops[2], c.Incs[1] = api.Op{Kind: 99}, 99
	if !reflect.DeepEqual(m, made()) || !reflect.DeepEqual(other, made()) {
		t.Errorf("a copy that was written over shares memory: %v, %v", m, other)
	}
	if empty := op.CopyMsg(api.Msg{}); !reflect.DeepEqual(empty, api.Msg{}) {
		t.Errorf("the copy of none is %v", empty)
	}
}
