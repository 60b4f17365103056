package core_test

import (
	"slices"
	"testing"

	"drover/api"
	"drover/bag"
	"drover/core"
	"drover/view"
	"drover/vr"
)

// P11.3: who is listened to

// deaf: m says nothing to the node, which knows no more of anybody behind it.
func deaf(t *testing.T, why string, r *core.Replica, m api.Msg) {
	t.Helper()
	s, incs, log, committed := r.Status(), r.Incs(), r.Log(), r.Committed()
	if got := r.Hear(m); len(got) != 0 {
		t.Errorf("%s: %v of %+v sends %+v", why, s, m, got)
	}
	if !slices.Equal(r.Incs(), incs) {
		t.Errorf("%s: Incs became %v", why, r.Incs())
	}
	stands(t, r, s.Phase, s.View, s.Last)
	holds(t, r, committed, log)
}

// any: a message of each kind, each of which says something to node 2 of 3 in view 0, or would in another phase.
func anyKind() []api.Msg {
	return []api.Msg{
		prepare(0, 1, 0, 1), prepareOK(0, 1), commit(0, 0, 0), start(3), do(1, 0, 0, nil), begun(3, 0, row(1, 2)),
		recovers(9), answer(0, 9, 0, true, row(1, 2)), get(0, 0), news(0, 0, 0, row(1, 2)), {Kind: api.MsgRequest}, {Kind: 0}, {Kind: 99},
	}
}

func TestWhoIsNotListenedTo(t *testing.T) {
	for _, m := range anyKind() {
		good := by(1, 2, 3, m)
		good.Incs = []int{1, 2, 3}
		for why, change := range map[string]func(m *api.Msg){
			"to no place":      func(m *api.Msg) { m.To = 0 },
			"to another":       func(m *api.Msg) { m.To = 1 },
			"to a third one":   func(m *api.Msg) { m.To = 3 },
			"to one far off":   func(m *api.Msg) { m.To += 1 << 32 },
			"from itself":      func(m *api.Msg) { m.From = 2 },
			"from no place":    func(m *api.Msg) { m.From = 0 },
			"from below":       func(m *api.Msg) { m.From = -1 },
			"from above":       func(m *api.Msg) { m.From = 4 },
			"from a client":    func(m *api.Msg) { m.From = 11 },
			"from the end":     func(m *api.Msg) { m.From = high },
			"from the lowest":  func(m *api.Msg) { m.From = low },
			"no Incs":          func(m *api.Msg) { m.Incs = nil },
			"too few Incs":     func(m *api.Msg) { m.Incs = m.Incs[:2] },
			"too many Incs":    func(m *api.Msg) { m.Incs = append(m.Incs, 4) },
			"stale":            func(m *api.Msg) { m.Incs[0] = -1 },
			"stale to its end": func(m *api.Msg) { m.Incs[0] = low },
		} {
			bad := bag.Copy(good)
			change(&bad)
			deaf(t, why, core.New(2, 3), bad)
		}
		for _, n := range []int{-1, most + 1, low, high} {
			for why, change := range map[string]func(m *api.Msg){
				"View": func(m *api.Msg) { m.View = n }, "Last": func(m *api.Msg) { m.Last = n }, "Num": func(m *api.Msg) { m.Num = n },
				"Commit": func(m *api.Msg) { m.Commit = n }, "Nonce": func(m *api.Msg) { m.Nonce = n },
			} {
				bad := bag.Copy(good)
				change(&bad)
				deaf(t, why, core.New(2, 3), bad)
				asleep, _ := core.Restart(2, 3, 9)
				deaf(t, why, asleep, bad)
			}
		}
	}
}

func TestNumbersAtTheirEndsAreListenedTo(t *testing.T) {
	for _, n := range []int{0, 1, most - 1, most} {
		r := core.New(2, 3)
		m := by(3, 2, 3, recovers(n))
		m.View, m.Last, m.Num, m.Commit = n, most-n, n, most-n
		sends(t, r.Hear(m), by(2, 3, 3, answer(0, n, 0, false, nil)))
	}
	r := core.New(2, 3)
	hears(t, r, 1, begun(most, 0, nil)) // node 2 leads that view
	stands(t, r, vr.Normal, 0, 0)
	r.Hear(by(1, 2, 3, start(most)))
	stands(t, r, vr.Change, most, 0)
	over(t, r, 10, toAll(2, 3, start(most+1))...)
}

func TestIncsAreMerged(t *testing.T) {
	for _, m := range anyKind() { // whatever is said, and to one that recovers, too
		r := core.New(2, 3)
		asleep, _ := core.Restart(2, 3, 7)
		m = by(1, 2, 3, m)
		m.Incs = []int{5, 0, 3}
		r.Hear(m)
		asleep.Hear(m)
		if !slices.Equal(r.Incs(), []int{5, 0, 3}) || !slices.Equal(asleep.Incs(), []int{5, 7, 3}) {
			t.Errorf("of %+v Incs are %v, %v", m, r.Incs(), asleep.Incs())
		}
		deaf(t, "of an elder one", r, by(1, 2, 3, m))
		deaf(t, "of an elder one", r, by(3, 2, 3, m))
	}
	r := core.New(2, 3)
	m := by(1, 2, 3, commit(0, 0, 0))
	m.Incs = []int{1, 0, 9}
	r.Hear(m)
	m.Incs = []int{4, -2, 8} // of node 3 less is told, but by another
	ok := by(2, 1, 3, prepareOK(0, 0))
	ok.Incs = []int{4, 0, 9}
	sends(t, r.Hear(m), ok)
	if !slices.Equal(r.Incs(), ok.Incs) {
		t.Errorf("Incs are %v", r.Incs())
	}
}

func TestOneThatRecoversIsSilent(t *testing.T) {
	for _, m := range anyKind() {
		if m.Kind == api.MsgRecovered {
			continue
		}
		for from := 1; from <= 3; from++ {
			r, _ := core.Restart(2, 3, 7)
			for range 3 {
				deaf(t, "it recovers", r, by(from, 2, 3, m))
			}
		}
	}
}

func TestOtherKindsSayNothing(t *testing.T) {
	for _, kind := range []int{low, -1, 0, api.MsgRequest, api.MsgReply, api.MsgCommand, api.MsgResult, 15, 99, 1<<32 + api.MsgStart, high} {
		for _, v := range []int{0, 1, 2, 3, most} {
			m := begun(v, 1, row(1, 2))
			m.Kind, m.Num, m.Lead = kind, 1, true
			for _, r := range []*core.Replica{core.New(1, 5), follower(t, 2, 5, 3, 1, 0), changer(t, 3, 2, 2, 1)} {
				s := r.Status()
				deaf(t, "another Kind", r, by(s.Id%5+1, s.Id, 5, m))
			}
		}
	}
}

// P11.3: MsgPrepare

func TestMsgPrepare(t *testing.T) {
	for _, v := range []int{0, 1, 4} {
		const id, n = 3, 5
		leads := v%n + 1
		ok := func(num int) api.Msg { return by(id, leads, n, prepareOK(v, num)) }
		lacks := func(num int) api.Msg { return by(id, leads, n, get(v, num)) }
		r := follower(t, id, n, v, 2, 0)
		hears(t, r, leads, prepare(v, 3, 0, 3), ok(3))
		holds(t, r, 0, row(1, 3))
		hears(t, r, leads, prepare(v, 4, 4, 4), ok(4)) // committed with what came along
		holds(t, r, 4, row(1, 4))
		hears(t, r, leads, prepare(v, 3, 9, 77), ok(4)) // once more, and as another: what is there stays
		hears(t, r, leads, prepare(v, 4, 0, 77), ok(4))
		hears(t, r, leads, prepare(v, 0, 0, 77), ok(4))
		holds(t, r, 4, row(1, 4))
		hears(t, r, leads, prepare(v, 6, 6, 6), lacks(4))
		hears(t, r, leads, prepare(v, most, 6, 6), lacks(4))
		holds(t, r, 4, row(1, 4))
		hears(t, r, leads, prepare(v, 5, 4, 5), ok(5))
		hears(t, r, leads, prepare(v, 7, 5, 7), lacks(5)) // committed ahead of asking
		holds(t, r, 5, row(1, 5))
		stands(t, r, vr.Normal, v, v)
	}
}

func TestMsgPrepareOfNoLeader(t *testing.T) {
	const n = 5
	for from := 1; from <= n; from++ {
		if from != 1 {
			deaf(t, "MsgPrepare", leader(t, n, 2), by(from, 1, n, prepare(0, 3, 2, 3)))
			deaf(t, "MsgCommit", leader(t, n, 2), by(from, 1, n, commit(0, 2, 2)))
		}
		if from != 3 && from != 2 {
			deaf(t, "MsgPrepare", follower(t, 3, n, 1, 2, 1), by(from, 3, n, prepare(1, 3, 2, 3)))
			deaf(t, "MsgCommit", follower(t, 3, n, 1, 2, 1), by(from, 3, n, commit(1, 2, 2)))
		}
	}
}

func TestMsgPrepareOfAnElderView(t *testing.T) {
	r := follower(t, 3, 5, 6, 2, 1)
	for v := range 6 {
		for from := 1; from <= 5; from++ {
			deaf(t, "MsgPrepare", r, by(from, 3, 5, prepare(v, 3, 2, 3)))
			deaf(t, "MsgCommit", r, by(from, 3, 5, commit(v, 2, 2)))
		}
	}
}

// Of a view that it does not take part in the node asks, whoever speaks.
func TestMsgPrepareOfAnotherView(t *testing.T) {
	for _, m := range []func(v int) api.Msg{
		func(v int) api.Msg { return prepare(v, 3, 2, 3) },
		func(v int) api.Msg { return prepare(v, 1, 0, 1) },
		func(v int) api.Msg { return commit(v, 2, 2) },
		func(v int) api.Msg { return commit(v, 9, 9) },
	} {
		for _, v := range []int{3, 4, 8, most} {
			for _, from := range []int{1, 2, 4, 5} {
				r := follower(t, 3, 5, 1, 2, 1)
				hears(t, r, from, m(v), by(3, from, 5, get(v, 1)))
				stands(t, r, vr.Normal, 1, 1)
				holds(t, r, 1, row(1, 2))
				r = changer(t, 3, 3, 2, 1)
				hears(t, r, from, m(v), by(3, from, 5, get(v, 1)))
				stands(t, r, vr.Change, 3, 0)
				holds(t, r, 1, row(1, 2))
			}
		}
		r := leader(t, 3, 2)
		hears(t, r, 2, m(1), by(1, 2, 3, get(1, 0)))
		stands(t, r, vr.Normal, 0, 0)
		deaf(t, "of a view that is elder than the one to begin", changer(t, 3, 3, 2, 1), by(3, 3, 5, m(2)))
	}
}

func TestMsgPrepareWithoutRoom(t *testing.T) {
	all := small(api.MaxOps)
	r := core.New(2, 3)
	hears(t, r, 1, news(0, 0, 5, all[:api.MaxOps-1]), by(2, 1, 3, prepareOK(0, api.MaxOps-1)))
	m := prepare(0, api.MaxOps, 5, 0)
	m.Op = all[api.MaxOps-1]
	hears(t, r, 1, m, by(2, 1, 3, prepareOK(0, api.MaxOps)))
	holds(t, r, 5, all)
	hears(t, r, 1, prepare(0, api.MaxOps+1, 7, 1), by(2, 1, 3, get(0, 7)))
	holds(t, r, 7, all)
}

// P11.3: MsgCommit

func TestMsgCommit(t *testing.T) {
	for _, v := range []int{0, 1, 4} {
		const id, n = 3, 5
		leads := v%n + 1
		ok, lacks := by(id, leads, n, prepareOK(v, 4)), func(num int) api.Msg { return by(id, leads, n, get(v, num)) }
		r := follower(t, id, n, v, 4, 1)
		hears(t, r, leads, commit(v, 4, 1), ok)
		hears(t, r, leads, commit(v, 0, 0), ok)
		hears(t, r, leads, commit(v, 3, 2), ok)
		holds(t, r, 2, row(1, 4))
		hears(t, r, leads, commit(v, 5, 3), lacks(3))
		holds(t, r, 3, row(1, 4))
		hears(t, r, leads, commit(v, most, most), lacks(4))
		hears(t, r, leads, commit(v, 4, 9), ok)
		holds(t, r, 4, row(1, 4))
		stands(t, r, vr.Normal, v, v)
	}
}

// P11.3: MsgPrepareOK

func TestMsgPrepareOK(t *testing.T) {
	for _, c := range []struct{ n, others int }{{2, 1}, {3, 1}, {4, 2}, {5, 2}} {
		r := leader(t, c.n, 4)
		for from := 2; from <= c.n; from++ {
			hears(t, r, from, prepareOK(0, 2))
			committed := 0
			if from-1 >= c.others {
				committed = 2
			}
			holds(t, r, committed, row(1, 4))
		}
		for from := 2; from <= c.n; from++ {
			for range 3 { // each node is one, however often it tells
				hears(t, r, from, prepareOK(0, 3))
			}
			committed := 2
			if from-1 >= c.others {
				committed = 3
			}
			holds(t, r, committed, row(1, 4))
		}
	}
}

func TestMsgPrepareOKOfLessOrMore(t *testing.T) {
	r := leader(t, 5, 4)
	hears(t, r, 2, prepareOK(0, 3))
	hears(t, r, 2, prepareOK(0, 1)) // late: it has 3 nevertheless
	hears(t, r, 3, prepareOK(0, 2))
	holds(t, r, 2, row(1, 4))
	hears(t, r, 4, prepareOK(0, most)) // at most as many as there are
	holds(t, r, 3, row(1, 4))
	for i := 5; i <= 6; i++ {
		if _, err := r.Propose(op(i)); err != api.OK {
			t.Fatal(err)
		}
	}
	hears(t, r, 5, prepareOK(0, 6))
	holds(t, r, 4, row(1, 6))
	hears(t, r, 3, prepareOK(0, 0))
	holds(t, r, 4, row(1, 6))
}

func TestMsgPrepareOKOfAnotherView(t *testing.T) {
	r := core.New(2, 3)
	begins(t, r, 4)
	if _, err := r.Propose(op(1)); err != api.OK {
		t.Fatal(err)
	}
	for _, v := range []int{0, 1, 2, 3, 5, 7, most} {
		deaf(t, "MsgPrepareOK", r, by(1, 2, 3, prepareOK(v, 1)))
	}
	hears(t, r, 1, prepareOK(4, 1))
	holds(t, r, 1, row(1, 1))
}

func TestMsgPrepareOKToOneThatDoesNotLead(t *testing.T) {
	for _, r := range []*core.Replica{follower(t, 3, 5, 6, 3, 1), changer(t, 1, 6, 3, 1), changer(t, 2, 6, 3, 1)} {
		s := r.Status()
		for from := 1; from <= 5; from++ {
			if from != s.Id {
				deaf(t, "MsgPrepareOK", r, by(from, s.Id, 5, prepareOK(6, 3)))
			}
		}
	}
}

// What a node's elder incarnation had is not there any more.
func TestMsgPrepareOKOfAnElderIncarnation(t *testing.T) {
	r := leader(t, 5, 2)
	hears(t, r, 2, prepareOK(0, 2))
	m := by(4, 1, 5, recovers(9))
	m.Incs = []int{0, 9, 0, 0, 0} // of node 2, told by node 4
	want := by(1, 4, 5, answer(0, 9, 0, true, row(1, 2)))
	want.Incs = m.Incs
	sends(t, r.Hear(m), want)
	hears(t, r, 3, prepareOK(0, 2))
	holds(t, r, 0, row(1, 2))
	deaf(t, "of an elder incarnation", r, by(2, 1, 5, prepareOK(0, 2)))
	m = by(2, 1, 5, prepareOK(0, 1))
	m.Incs[1] = 9
	sends(t, r.Hear(m))
	holds(t, r, 1, row(1, 2))
}

// ACKs are of one view: of the next one that the node leads they are 0.
func TestMsgPrepareOKOfTheNextView(t *testing.T) {
	r := leader(t, 3, 2)
	if _, err := r.Propose(op(3)); err != api.OK {
		t.Fatal(err)
	}
	hears(t, r, 2, prepareOK(0, 2))
	r.Hear(by(2, 1, 3, do(3, 0, 2, row(1, 3))))
	stands(t, r, vr.Normal, 3, 3)
	holds(t, r, 2, row(1, 3))
	hears(t, r, 2, prepareOK(3, 1))
	hears(t, r, 3, prepareOK(0, 3))
	holds(t, r, 2, row(1, 3))
	hears(t, r, 3, prepareOK(3, 3))
	holds(t, r, 3, row(1, 3))
}

// P11.3: MsgGet

func TestMsgGet(t *testing.T) {
	led := leader(t, 5, 4)
	for from := 2; from <= 4; from++ {
		led.Hear(by(from, 1, 5, prepareOK(0, 3)))
	}
	for num := range 5 {
		hears(t, led, 2, get(0, num), by(1, 2, 5, news(0, num, 3, row(num+1, 4))))
		for v := range 5 { // of any node, and of an elder view too: it is told which one it is
			r := follower(t, 3, 5, 4, 4, 3)
			hears(t, r, 1, get(v, num), by(3, 1, 5, news(4, num, 3, row(num+1, 4))))
			holds(t, r, 3, row(1, 4))
			stands(t, r, vr.Normal, 4, 4)
		}
	}
}

func TestMsgGetOfWhatIsNotThere(t *testing.T) {
	for _, num := range []int{5, 6, api.MaxOps, most} {
		deaf(t, "too far", leader(t, 5, 4), by(2, 1, 5, get(0, num)))
		deaf(t, "too far", follower(t, 3, 5, 4, 4, 3), by(2, 3, 5, get(4, num)))
	}
	for _, v := range []int{5, 6, most} {
		deaf(t, "of a greater view", follower(t, 3, 5, 4, 4, 3), by(2, 3, 5, get(v, 0)))
	}
	for v := range 4 {
		deaf(t, "no view is", changer(t, 3, 3, 4, 3), by(2, 3, 5, get(v, 0)))
	}
	sends(t, core.New(1, 2).Hear(by(2, 1, 2, get(0, 0))), by(1, 2, 2, news(0, 0, 0, nil)))
}

// P11.3: MsgNew

func TestMsgNewOfItsView(t *testing.T) {
	const id, n = 3, 5
	for _, from := range []int{1, 2, 5} { // whoever tells it, node 2 is told
		ok := func(num int) api.Msg { return by(id, 2, n, prepareOK(1, num)) }
		for num := range 3 {
			r := follower(t, id, n, 1, 4, 2)
			hears(t, r, from, news(1, num, 0, row(num+1, 6)), ok(6))
			holds(t, r, 2, row(1, 6))
			hears(t, r, from, news(1, num, 5, row(num+1, 5)), ok(6)) // reaches no farther
			holds(t, r, 5, row(1, 6))
			stands(t, r, vr.Normal, 1, 1)
		}
		r := follower(t, id, n, 1, 4, 2)
		hears(t, r, from, news(1, 2, 3, row(71, 72)), ok(4)) // as far as the log: that stays
		holds(t, r, 3, row(1, 4))
		hears(t, r, from, news(1, 3, 9, nil), ok(4))
		holds(t, r, 4, row(1, 4))
		r = follower(t, id, n, 1, 4, 2)
		hears(t, r, from, news(1, 1, 3, append(row(70, 70), row(73, 75)...)), ok(5)) // farther: it is Joined behind what is committed, which stays
		holds(t, r, 3, append(row(1, 2), row(73, 75)...))
	}
}

func TestMsgNewThatDoesNotFit(t *testing.T) {
	for _, m := range []api.Msg{
		news(1, 3, 9, row(4, 9)), news(1, 4, 9, row(5, 9)), news(1, most, 9, row(5, 9)), // behind what is committed something would be missing
		news(1, 0, 9, row(1, 1)), news(1, 1, 9, nil), news(1, 0, 0, nil), // they do not come to it
	} {
		deaf(t, "it does not fit", follower(t, 3, 5, 1, 4, 2), by(2, 3, 5, m))
		m.View = 3
		deaf(t, "it does not fit", follower(t, 3, 5, 1, 4, 2), by(2, 3, 5, m))
		deaf(t, "it does not fit", changer(t, 3, 3, 4, 2), by(2, 3, 5, m))
	}
}

func TestMsgNewOfAnotherView(t *testing.T) {
	const id, n = 3, 5
	for _, v := range []int{3, 4, 9} {
		leads := v%n + 1
		for name, made := range map[string]func() *core.Replica{
			"it takes part in an elder view": func() *core.Replica { return follower(t, id, n, 1, 4, 2) },
			"its view has yet to begin":      func() *core.Replica { return changer(t, id, 3, 4, 2) },
		} {
			for _, c := range []struct {
				m         api.Msg
				committed int
				log       []api.Op
			}{
				{news(v, 2, 0, row(3, 6)), 2, row(1, 6)},
				{news(v, 0, 5, row(1, 6)), 5, row(1, 6)},
				{news(v, 1, 9, row(71, 72)), 3, append(row(1, 2), op(72))}, // those that are not committed are gone
				{news(v, 0, 9, row(71, 72)), 2, row(1, 2)},
				{news(v, 2, 2, nil), 2, row(1, 2)},
			} {
				r := made()
				hears(t, r, 1, c.m, by(id, leads, n, prepareOK(v, len(c.log))))
				stands(t, r, vr.Normal, v, v)
				holds(t, r, c.committed, c.log)
				if t.Failed() {
					t.Fatalf("%s: of %+v", name, c.m)
				}
				over(t, r, 6+id, toAll(id, n, start(v+1))...)
			}
		}
	}
}

func TestMsgNewOfAnElderView(t *testing.T) {
	deaf(t, "of an elder view", follower(t, 3, 5, 4, 4, 2), by(2, 3, 5, news(3, 2, 9, row(3, 9))))
	deaf(t, "of an elder view", changer(t, 3, 3, 4, 2), by(2, 3, 5, news(1, 2, 9, row(3, 9))))
	deaf(t, "of the view that it was in", changer(t, 3, 3, 4, 2), by(2, 3, 5, news(0, 2, 9, row(3, 9))))
}

func TestMsgNewToOneThatLeads(t *testing.T) {
	for _, from := range []int{1, 2, 4, 5} {
		for _, v := range []int{2, 7} {
			m := by(from, 3, 5, news(v, 0, 2, row(1, 9)))
			deaf(t, "it leads that view", follower(t, 3, 5, 1, 4, 2), m)
			deaf(t, "it leads that view", changer(t, 3, 2, 4, 2), m)
		}
	}
	deaf(t, "it leads", leader(t, 3, 2), by(2, 1, 3, news(0, 0, 2, row(1, 9))))
	r := leader(t, 3, 2) // which another one will
	hears(t, r, 3, news(1, 0, 1, row(5, 6)), by(1, 2, 3, prepareOK(1, 2)))
	stands(t, r, vr.Normal, 1, 1)
	holds(t, r, 1, row(5, 6))
	over(t, r, 7, toAll(1, 3, start(2))...)
}

func TestMsgNewWithoutRoom(t *testing.T) {
	all := small(api.MaxOps + 3)
	r := follower(t, 3, 5, 1, 2, 2)
	hears(t, r, 2, news(1, 2, 2, all[2:api.MaxOps]), by(3, 2, 5, prepareOK(1, api.MaxOps)))
	full := append(row(1, 2), all[2:api.MaxOps]...)
	holds(t, r, 2, full)
	hears(t, r, 2, news(1, 2, 4, all[2:api.MaxOps+1]), by(3, 2, 5, prepareOK(1, api.MaxOps)))
	holds(t, r, 4, full)
	r = follower(t, 3, 5, 1, 3, 2) // what does not fit is not there; the node takes part nevertheless
	hears(t, r, 4, news(3, 1, 2, all[1:api.MaxOps+1]), by(3, 4, 5, prepareOK(3, 3)))
	stands(t, r, vr.Normal, 3, 3)
	holds(t, r, 2, row(1, 3))
}

// P11.3: MsgStart

func TestMsgStart(t *testing.T) {
	for _, n := range counts() {
		for id := 1; id <= n; id++ {
			for _, v := range []int{1, 2, 3, 9, most} {
				r := core.New(id, n)
				starts, leads := toAll(id, n, start(v)), view.Leader(v, n)
				var mine []api.Msg // what it tells who leads, if that is another one
				if leads != id {
					mine = append(mine, by(id, leads, n, do(v, 0, 0, nil)))
				}
				heard := 0
				for from := n; from >= 1; from-- {
					if from == id {
						continue
					}
					heard++
					var want []api.Msg
					if heard == 1 {
						want = append(want, starts...)
					}
					if heard == view.Quorum(n)-1 {
						want = append(want, mine...)
					}
					hears(t, r, from, start(v), want...)
					hears(t, r, from, start(v)) // once more: it is one
					stands(t, r, vr.Change, v, 0)
				}
			}
		}
	}
}

func TestMsgStartTellsTheLog(t *testing.T) {
	r := follower(t, 3, 5, 6, 4, 2)
	hears(t, r, 4, start(8), toAll(3, 5, start(8))...)
	hears(t, r, 5, start(8), by(3, 4, 5, do(8, 6, 2, row(1, 4))))
	over(t, r, 11, toAll(3, 5, start(9))...)
	hears(t, r, 5, start(9)) // in each view they are counted anew
	hears(t, r, 4, start(9), by(3, 5, 5, do(9, 6, 2, row(1, 4))))
	hears(t, r, 1, start(11), toAll(3, 5, start(11))...)
	stands(t, r, vr.Change, 11, 6)
	hears(t, r, 2, start(11), by(3, 2, 5, do(11, 6, 2, row(1, 4))))
	for range 3 {
		hears(t, r, 4, start(11)) // once in a view
	}
	holds(t, r, 2, row(1, 4))
}

// In a view that its own clock began, its own START counts too.
func TestMsgStartBehindItsOwn(t *testing.T) {
	for _, c := range []struct{ n, others int }{{2, 1}, {3, 1}, {4, 2}, {5, 2}} {
		r := core.New(c.n, c.n)
		over(t, r, 6+c.n, toAll(c.n, c.n, start(1))...)
		for from := 1; from < c.n; from++ {
			var want []api.Msg
			if from == c.others && c.n > 2 { // of two nodes this one leads
				want = append(want, by(c.n, 2, c.n, do(1, 0, 0, nil)))
			}
			hears(t, r, from, start(1), want...)
		}
	}
}

func TestMsgStartOfAnElderIncarnation(t *testing.T) {
	r := core.New(5, 5)
	hears(t, r, 4, start(1), toAll(5, 5, start(1))...)
	m := by(1, 5, 5, commit(0, 0, 0))
	m.Incs = []int{0, 0, 0, 6, 0} // node 4 does not know of its START any more
	sends(t, r.Hear(m))
	deaf(t, "of an elder incarnation", r, by(4, 5, 5, start(1)))
	hears(t, r, 3, start(1))
	m = by(4, 5, 5, start(1))
	m.Incs = []int{0, 0, 0, 6, 0}
	want := by(5, 2, 5, do(1, 0, 0, nil))
	want.Incs = m.Incs
	sends(t, r.Hear(m), want)
}

func TestMsgStartOfItsViewOrAnElderOne(t *testing.T) {
	for v := range 7 {
		for _, from := range []int{1, 2, 4, 5} {
			deaf(t, "it takes part", follower(t, 3, 5, 6, 4, 2), by(from, 3, 5, start(v)))
		}
	}
	r := changer(t, 3, 4, 4, 2)
	for v := range 4 {
		for _, from := range []int{1, 2, 4, 5} {
			deaf(t, "of an elder view", r, by(from, 3, 5, start(v)))
		}
	}
}

// P11.3: MsgDo

func TestMsgDo(t *testing.T) {
	for _, n := range counts() {
		for _, v := range []int{1, 2, 3, 4, 9} {
			id := view.Leader(v, n)
			r := core.New(id, n)
			heard := 0
			for from := 1; from <= n && heard < view.Quorum(n)-1; from++ {
				if from == id {
					continue
				}
				heard++
				var want []api.Msg
				if heard == 1 {
					want = append(want, toAll(id, n, start(v))...)
				}
				if heard == view.Quorum(n)-1 {
					want = append(want, toAll(id, n, begun(v, 1, row(1, 2)))...)
				}
				hears(t, r, from, do(v, 0, 1, row(1, 2)), want...)
				if heard < view.Quorum(n)-1 {
					stands(t, r, vr.Change, v, 0)
					hears(t, r, from, do(v, 0, 1, row(1, 2))) // once more: it is one
					stands(t, r, vr.Change, v, 0)
				}
			}
			stands(t, r, vr.Normal, v, v)
			holds(t, r, 1, row(1, 2))
			if !r.Leads() {
				t.Errorf("node %d of %d does not lead view %d", id, n, v)
			}
			over(t, r, 1, toAll(id, n, commit(v, 2, 1))...)
		}
	}
}

func TestMsgDoOfOneThatDoesNotLead(t *testing.T) {
	for _, v := range []int{3, 4, 8, most} {
		r := follower(t, 3, 5, 1, 4, 2)
		hears(t, r, 1, do(v, 2, 3, row(1, 9)), toAll(3, 5, start(v))...) // it is for that view, too
		for _, from := range []int{1, 2, 4, 5} {
			deaf(t, "it does not lead that view", r, by(from, 3, 5, do(v, 2, 3, row(1, 9))))
		}
		stands(t, r, vr.Change, v, 1)
	}
}

func TestMsgDoOfItsViewOrAnElderOne(t *testing.T) {
	r := core.New(3, 5)
	begins(t, r, 7)
	for v := range 8 {
		deaf(t, "it takes part", r, by(1, 3, 5, do(v, 6, 3, row(1, 9))))
		deaf(t, "it takes part", r, by(2, 3, 5, do(v, 6, 3, row(1, 9))))
	}
	r = changer(t, 3, 7, 4, 2)
	for v := range 7 {
		deaf(t, "of an elder view", r, by(1, 3, 5, do(v, 6, 3, row(1, 9))))
		deaf(t, "of an elder view", r, by(2, 3, 5, do(v, 6, 3, row(1, 9))))
	}
}

// What goes on is the log of the greatest Last, of these the one with the most operations, of these the lowest node's; what was committed anywhere is.
func TestMsgDoChooses(t *testing.T) {
	other := func(n int) []api.Op { return append(row(1, 2), row(71, 70+n)...) }
	for name, c := range map[string]struct {
		first, second api.Msg // of nodes 1 and 5; node 3's own: Last 0, 4 operations, 2 of them committed
		committed     int
		log           []api.Op
	}{
		"its own has the most":         {do(2, 0, 1, row(1, 3)), do(2, 0, 1, row(1, 2)), 2, row(1, 4)},
		"a greater Last":               {do(2, 0, 1, row(1, 3)), do(2, 1, 1, other(1)), 2, other(1)},
		"the greatest Last":            {do(2, 2, 0, other(0)), do(2, 1, 1, row(1, 9)), 2, other(0)},
		"of a Last the most":           {do(2, 1, 1, other(1)), do(2, 1, 1, other(3)), 2, other(3)},
		"of those the first":           {do(2, 1, 1, other(2)), do(2, 1, 1, row(1, 4)), 2, other(2)},
		"the first, ahead of its own":  {do(2, 0, 2, other(2)), do(2, 0, 2, row(1, 3)), 2, other(2)},
		"its own, ahead of node 5's":   {do(2, 0, 2, other(1)), do(2, 0, 2, other(2)), 2, row(1, 4)},
		"committed at another":         {do(2, 1, 2, other(4)), do(2, 0, 3, row(1, 3)), 3, other(4)},
		"committed where it goes on":   {do(2, 1, 5, other(4)), do(2, 0, 3, row(1, 3)), 5, other(4)},
		"committed here":               {do(2, 1, 0, other(1)), do(2, 1, 1, other(0)), 2, other(1)},
		"committed to its end":         {do(2, 0, 4, row(1, 4)), do(2, 0, 3, row(1, 3)), 4, row(1, 4)},
		"committed to its end, by one": {do(2, 1, 0, other(1)), do(2, 0, 3, row(1, 9)), 3, other(1)},
	} {
		r := changer(t, 3, 2, 4, 2)
		hears(t, r, 5, c.second)
		hears(t, r, 1, c.first, toAll(3, 5, begun(2, c.committed, c.log))...)
		stands(t, r, vr.Normal, 2, 2)
		holds(t, r, c.committed, c.log)
		if t.Failed() {
			t.Fatal(name)
		}
	}
}

// Of each node the last one counts.
func TestMsgDoOnceMore(t *testing.T) {
	r := core.New(3, 5)
	hears(t, r, 1, do(2, 1, 3, row(1, 9)), toAll(3, 5, start(2))...)
	hears(t, r, 1, do(2, 1, 1, row(1, 2)))
	hears(t, r, 5, do(2, 0, 0, row(1, 3)), toAll(3, 5, begun(2, 1, row(1, 2)))...)
	holds(t, r, 1, row(1, 2))
}

// STARTs are no DOs, though its own one is kept then; and a DO is no START.
func TestMsgDoBehindMsgStart(t *testing.T) {
	r := changer(t, 3, 2, 4, 2)
	for _, from := range []int{1, 2, 4, 5} {
		hears(t, r, from, start(2))
	}
	hears(t, r, 1, do(2, 0, 0, nil))
	hears(t, r, 2, do(2, 0, 0, nil), toAll(3, 5, begun(2, 2, row(1, 4)))...)
	holds(t, r, 2, row(1, 4))
}

func TestMsgDoOfAnElderIncarnation(t *testing.T) {
	r := core.New(3, 5)
	hears(t, r, 1, do(2, 0, 0, row(1, 2)), toAll(3, 5, start(2))...)
	m := by(2, 3, 5, do(2, 0, 0, row(1, 1)))
	m.Incs = []int{4, 0, 0, 0, 0} // node 1 does not know of its DO any more
	sends(t, r.Hear(m))
	deaf(t, "of an elder incarnation", r, by(1, 3, 5, do(2, 0, 0, row(1, 2))))
	stands(t, r, vr.Change, 2, 0)
	m = by(5, 3, 5, do(2, 0, 0, nil))
	m.Incs = []int{4, 0, 0, 0, 0}
	want := toAll(3, 5, begun(2, 0, row(1, 1)))
	for i := range want {
		want[i].Incs = m.Incs
	}
	sends(t, r.Hear(m), want...)
}

// DOs are of one view: in the next one they are counted anew.
func TestMsgDoOfTheNextView(t *testing.T) {
	r := core.New(3, 5)
	hears(t, r, 1, do(2, 0, 0, row(1, 2)), toAll(3, 5, start(2))...)
	hears(t, r, 2, start(7), toAll(3, 5, start(7))...)
	hears(t, r, 5, do(7, 0, 0, row(1, 1)))
	stands(t, r, vr.Change, 7, 0)
	hears(t, r, 4, do(7, 0, 0, nil), toAll(3, 5, begun(7, 0, row(1, 1)))...)
}

// Where the log cannot be Replaced the view does not begin; another DO may mend it.
func TestMsgDoThatCannotBe(t *testing.T) {
	for name, m := range map[string]api.Msg{
		"more is committed than goes on": do(2, 1, 5, row(1, 4)),
		"much more is":                   do(2, 1, most, row(1, 4)),
		"too little goes on":             do(2, 1, 0, row(1, 1)),
		"what was committed is another":  do(2, 1, 0, append(row(1, 1), row(8, 9)...)),
		"too much goes on":               do(2, 1, 2, append(row(1, 2), small(api.MaxOps-1)...)),
	} {
		r := changer(t, 3, 2, 4, 2)
		hears(t, r, 1, do(2, 0, 0, nil))
		hears(t, r, 5, m)
		stands(t, r, vr.Change, 2, 0)
		holds(t, r, 2, row(1, 4))
		hears(t, r, 4, do(2, 0, 0, nil))
		hears(t, r, 5, do(2, 0, 0, nil), toAll(3, 5, begun(2, 2, row(1, 4)))...)
		if t.Failed() {
			t.Fatal(name)
		}
	}
	r := follower(t, 2, 3, 0, 4, 2) // it is for the view all the same
	hears(t, r, 1, do(1, 0, 9, row(1, 3)), toAll(2, 3, start(1))...)
	stands(t, r, vr.Change, 1, 0)
	holds(t, r, 2, row(1, 4))
}

// P11.3: MsgView

func TestMsgView(t *testing.T) {
	const id, n = 3, 5
	for _, v := range []int{3, 4, 9} {
		leads := v%n + 1
		for name, made := range map[string]func() *core.Replica{
			"it takes part in an elder view": func() *core.Replica { return follower(t, id, n, 1, 4, 2) },
			"its view has yet to begin":      func() *core.Replica { return changer(t, id, 3, 4, 2) },
			"an elder view has yet to begin": func() *core.Replica { return changer(t, id, 2, 4, 2) },
		} {
			for _, c := range []struct {
				m         api.Msg
				committed int
				log       []api.Op
			}{
				{begun(v, 3, row(1, 6)), 3, row(1, 6)},
				{begun(v, 0, append(row(1, 2), row(71, 73)...)), 2, append(row(1, 2), row(71, 73)...)},
				{begun(v, 3, row(1, 3)), 3, row(1, 3)},
				{begun(v, 1, row(1, 2)), 2, row(1, 2)},
			} {
				r := made()
				hears(t, r, leads, c.m, by(id, leads, n, prepareOK(v, len(c.log))))
				stands(t, r, vr.Normal, v, v)
				holds(t, r, c.committed, c.log)
				if t.Failed() {
					t.Fatalf("%s: of %+v", name, c.m)
				}
				over(t, r, 6+id, toAll(id, n, start(v+1))...)
			}
		}
	}
}

func TestMsgViewThatSaysNothing(t *testing.T) {
	for v := range 10 {
		for _, from := range []int{1, 2, 4, 5} {
			m := by(from, 3, 5, begun(v, 3, row(1, 6)))
			if from != v%5+1 {
				deaf(t, "of no leader", follower(t, 3, 5, 1, 4, 2), m)
				deaf(t, "of no leader", changer(t, 3, 3, 4, 2), m)
			}
			if v <= 6 {
				deaf(t, "of its view, or an elder one", follower(t, 3, 5, 6, 4, 2), m)
			}
			if v < 6 {
				deaf(t, "of an elder view", changer(t, 3, 6, 4, 2), m)
			}
		}
	}
}

func TestMsgViewThatCannotBe(t *testing.T) {
	for name, m := range map[string]api.Msg{
		"more is committed than there is": begun(3, 5, row(1, 4)),
		"much more is":                    begun(3, most, row(1, 4)),
		"too little is there":             begun(3, 0, row(1, 1)),
		"nothing is there":                begun(3, 0, nil),
		"what was committed is another":   begun(3, 2, append(row(1, 1), row(8, 9)...)),
		"too much is there":               begun(3, 2, append(row(1, 2), small(api.MaxOps-1)...)),
	} {
		deaf(t, name, follower(t, 3, 5, 1, 4, 2), by(4, 3, 5, m))
		deaf(t, name, changer(t, 3, 3, 4, 2), by(4, 3, 5, m))
		deaf(t, name, changer(t, 3, 2, 4, 2), by(4, 3, 5, m))
	}
	r := follower(t, 3, 5, 1, 2, 2)
	all := append(row(1, 2), small(api.MaxOps-2)...)
	hears(t, r, 4, begun(3, api.MaxOps, all), by(3, 4, 5, prepareOK(3, api.MaxOps)))
	holds(t, r, api.MaxOps, all)
}

// What was kept of a view that had yet to begin is forgotten when another way led into it.
func TestMsgViewForgets(t *testing.T) {
	r := changer(t, 3, 2, 2, 1)
	hears(t, r, 1, do(2, 0, 0, row(1, 4)))
	hears(t, r, 4, begun(3, 1, row(1, 2)), by(3, 4, 5, prepareOK(3, 2)))
	hears(t, r, 1, do(7, 3, 1, row(1, 3)), toAll(3, 5, start(7))...)
	stands(t, r, vr.Change, 7, 3)
	hears(t, r, 2, do(7, 0, 0, nil), toAll(3, 5, begun(7, 1, row(1, 3)))...)
}

// P11.3: MsgRecover

func TestMsgRecover(t *testing.T) {
	for _, nonce := range []int{0, 1, 7, most} {
		r := leader(t, 3, 4)
		hears(t, r, 3, prepareOK(0, 3))
		hears(t, r, 2, recovers(nonce), by(1, 2, 3, answer(0, nonce, 3, true, row(1, 4))))
		holds(t, r, 3, row(1, 4))
		r = follower(t, 3, 5, 6, 4, 2)
		hears(t, r, 5, recovers(nonce), by(3, 5, 5, answer(6, nonce, 2, false, nil)))
		holds(t, r, 2, row(1, 4))
		deaf(t, "no view is", changer(t, 3, 2, 4, 2), by(1, 3, 5, recovers(nonce)))
		deaf(t, "no view is", changer(t, 3, 3, 4, 2), by(1, 3, 5, recovers(nonce)))
		asleep, _ := core.Restart(3, 5, 7)
		deaf(t, "it knows nothing", asleep, by(1, 3, 5, recovers(nonce)))
	}
	r := leader(t, 3, 2)
	m := by(2, 1, 3, recovers(6))
	m.Incs[1] = 6
	want := by(1, 2, 3, answer(0, 6, 0, true, row(1, 2)))
	want.Incs = m.Incs
	sends(t, r.Hear(m), want)
}

// P11.3: MsgRecovered

// asleep: node 2 of n, which was started anew by nonce 7.
func asleep(n int) *core.Replica {
	r, _ := core.Restart(2, n, 7)
	return r
}

// tells: the node hears m, and sends what is wanted, as one that was started anew by nonce 7.
func tells(t *testing.T, r *core.Replica, from int, m api.Msg, want ...api.Msg) {
	t.Helper()
	for i := range want {
		want[i].Incs[1] = 7
	}
	hears(t, r, from, m, want...)
}

func TestMsgRecovered(t *testing.T) {
	for _, c := range []struct{ n, enough int }{{2, 1}, {3, 2}, {4, 2}, {5, 3}} {
		r := asleep(c.n)
		told := 1
		for _, from := range []int{5, 4, 3} {
			if from > c.n || told >= c.enough {
				continue
			}
			told++
			tells(t, r, from, answer(0, 7, 9, false, nil))
			tells(t, r, from, answer(0, 7, 9, false, nil)) // once more: it is one
			stands(t, r, vr.Recover, 0, 0)
		}
		tells(t, r, 1, answer(0, 7, 3, true, row(1, 4)), by(2, 1, c.n, prepareOK(0, 4)))
		stands(t, r, vr.Normal, 0, 0)
		holds(t, r, 3, row(1, 4))
	}
}

func TestMsgRecoveredOfTheLastOneThatTells(t *testing.T) {
	r := asleep(3)
	tells(t, r, 1, answer(3, 7, 1, true, row(1, 4)))
	stands(t, r, vr.Recover, 0, 0)
	tells(t, r, 3, answer(2, 7, 3, false, nil), by(2, 1, 3, prepareOK(3, 4))) // it is node 1's that counts
	stands(t, r, vr.Normal, 3, 3)
	holds(t, r, 1, row(1, 4))
	over(t, r, 8, withInc(toAll(2, 3, start(4)))...)
}

// withInc: l as one sends it that was started anew by nonce 7.
func withInc(l []api.Msg) []api.Msg {
	for i := range l {
		l[i].Incs[1] = 7
	}
	return l
}

func TestMsgRecoveredOfAGreaterView(t *testing.T) {
	r := asleep(3)
	tells(t, r, 1, answer(3, 7, 1, true, row(1, 4)))
	tells(t, r, 3, answer(4, 7, 1, false, nil)) // view 4 is node 2's own: nobody else leads it
	stands(t, r, vr.Recover, 0, 0)
	tells(t, r, 3, answer(5, 7, 2, true, row(1, 5)), by(2, 3, 3, prepareOK(5, 5)))
	stands(t, r, vr.Normal, 5, 5)
	holds(t, r, 2, row(1, 5))
}

// The last answer of each counts, of whatever nonce.
func TestMsgRecoveredOfAnotherNonce(t *testing.T) {
	for _, nonce := range []int{0, 6, 8, most} {
		r := asleep(3)
		tells(t, r, 1, answer(0, nonce, 1, true, row(1, 4)))
		tells(t, r, 3, answer(0, 7, 1, false, nil))
		stands(t, r, vr.Recover, 0, 0)
		tells(t, r, 3, answer(9, nonce, 1, false, nil)) // what node 3 told is forgotten
		tells(t, r, 1, answer(0, 7, 1, true, row(1, 4)))
		stands(t, r, vr.Recover, 0, 0)
		tells(t, r, 3, answer(0, 7, 0, false, nil), by(2, 1, 3, prepareOK(0, 4)))
		stands(t, r, vr.Normal, 0, 0)
	}
	r := asleep(3) // its own nonce stays, even if a greater one is said of it
	m := by(3, 2, 3, answer(0, 7, 0, false, nil))
	m.Incs = []int{0, 8, 0}
	sends(t, r.Hear(m))
	want := by(2, 1, 3, prepareOK(0, 2))
	want.Incs[1] = 8
	sends(t, r.Hear(by(1, 2, 3, answer(0, 7, 0, true, row(1, 2)))), want)
}

func TestMsgRecoveredOfAnElderIncarnation(t *testing.T) {
	r := asleep(3)
	tells(t, r, 1, answer(0, 7, 2, true, row(1, 4)))
	m := by(3, 2, 3, answer(0, 7, 2, false, nil))
	m.Incs = []int{5, 0, 0} // node 1 does not know of what it told any more
	sends(t, r.Hear(m))
	stands(t, r, vr.Recover, 0, 0)
	deaf(t, "of an elder incarnation", r, by(1, 2, 3, answer(0, 7, 2, true, row(1, 4))))
}

func TestMsgRecoveredThatCannotBe(t *testing.T) {
	for _, m := range []api.Msg{answer(0, 7, 5, true, row(1, 4)), answer(0, 7, most, true, nil), answer(0, 7, 0, true, small(api.MaxOps+1))} {
		r := asleep(3)
		tells(t, r, 3, answer(0, 7, 0, false, nil))
		tells(t, r, 1, m)
		stands(t, r, vr.Recover, 0, 0)
		holds(t, r, 0, nil)
		tells(t, r, 1, answer(0, 7, 0, false, row(1, 4))) // it does not say that it leads
		stands(t, r, vr.Recover, 0, 0)
		tells(t, r, 1, answer(0, 7, 4, true, row(1, 4)), by(2, 1, 3, prepareOK(0, 4)))
		holds(t, r, 4, row(1, 4))
	}
}

func TestMsgRecoveredOfOneThatDoesNotRecover(t *testing.T) {
	for _, v := range []int{0, 3, 4, 9, most} {
		for _, r := range []*core.Replica{leader(t, 5, 3), follower(t, 3, 5, 4, 3, 1), changer(t, 2, 4, 3, 1)} {
			s := r.Status()
			for from := 1; from <= 5; from++ {
				for _, nonce := range []int{0, 7} {
					if from != s.Id {
						deaf(t, "it does not recover", r, by(from, s.Id, 5, answer(v, nonce, 1, true, row(1, 9))))
					}
				}
			}
		}
	}
}

// Example 1.
func TestAnOperationIsCommitted(t *testing.T) {
	r, other := core.New(1, 3), core.New(2, 3)
	l, err := r.Propose(op(1))
	if err != api.OK || len(l) != 2 || l[0].Kind != api.MsgPrepare || l[1].Kind != api.MsgPrepare {
		t.Fatalf("Propose: %v, %v", l, err)
	}
	ok := other.Hear(l[0])
	sends(t, ok, by(2, 1, 3, prepareOK(0, 1)))
	sends(t, r.Hear(ok[0]))
	if r.Committed() != 1 || other.Committed() != 0 {
		t.Errorf("committed: %d, %d", r.Committed(), other.Committed())
	}
}
