package core

import (
	"drover/api"
	"drover/bag"
	"drover/view"
	"drover/vr"
)

// set: the timer of that name runs, from now on.
func (s *state) set(timer int) {
	ticks := [...]int{beat: beatTicks, watch: watchTicks + s.at.Id, change: changeTicks + s.at.Id, ask: askTicks}
	s.timers.Set(timer, ticks[timer])
}

// setAlone: that timer runs, from now on, and no other: each phase has one.
func (s *state) setAlone(timer int) {
	for _, other := range s.timers.Names() {
		s.timers.Stop(other)
	}
	s.set(timer)
}

// changeTo: the node is for a view, which has yet to begin.
func (s *state) changeTo(v int) []api.Msg {
	s.at.View, s.at.Phase = v, vr.Change
	s.forget()
	s.keep(s.at.Id, func(h *heard) { h.start = true })
	s.setAlone(change)
	return s.toAll(api.Msg{Kind: api.MsgStart, View: v})
}

// enter: the node takes part in a view.
func (s *state) enter(v int) {
	s.at.View, s.at.Last, s.at.Phase = v, v, vr.Normal
	s.forget()
	if vr.Leads(s.at) {
		s.setAlone(beat)
	} else {
		s.setAlone(watch)
	}
}

// askAll: the others are to tell all.
func (s *state) askAll() []api.Msg {
	s.set(ask)
	return s.toAll(api.Msg{Kind: api.MsgRecover, Nonce: s.nonce})
}

// forget: nothing is kept of any node.
func (s *state) forget() {
	clear(s.kept)
	s.told = false
}

// keep: what is kept of a node is changed.
func (s *state) keep(node int, by func(h *heard)) {
	h := s.kept[node]
	by(&h)
	s.kept[node] = h
}

// keepLog: m is what told its sender's log.
func (s *state) keepLog(m api.Msg) {
	s.keep(m.From, func(h *heard) { h.log = bag.Copy(m) })
}

// count: of how many nodes something is kept that is as is asked for.
func (s *state) count(asked func(h heard) bool) int {
	n := 0
	for _, h := range s.kept {
		if asked(h) {
			n++
		}
	}
	return n
}

// logs: what told the nodes' logs, by nodes.
func (s *state) logs() []api.Msg {
	var l []api.Msg
	for i := range s.at.N {
		if m := s.kept[i+1].log; m.Kind != 0 {
			l = append(l, m)
		}
	}
	return l
}

// acks: how many operations of this view's log each node has.
func (s *state) acks() []int {
	l := make([]int, s.at.N)
	for node, h := range s.kept {
		l[node-1] = h.ack
	}
	l[s.at.Id-1] = s.log.Last()
	return l
}

// leader: the node that leads a view.
func (s *state) leader(v int) int { return view.Leader(v, s.at.N) }

// enough: are so many nodes a Quorum?
func (s *state) enough(n int) bool { return n >= view.Quorum(s.at.N) }

// signed: m as it goes from this node to another one; it is not to share memory with what goes to the others.
func (s *state) signed(to int, m api.Msg) api.Msg {
	m.From, m.To, m.Incs = s.at.Id, to, s.incs
	return bag.Copy(m)
}

// send: m goes to one node.
func (s *state) send(to int, m api.Msg) []api.Msg { return []api.Msg{s.signed(to, m)} }

// toAll: m goes to each other node.
func (s *state) toAll(m api.Msg) []api.Msg {
	var sent []api.Msg
	for i := range s.at.N {
		if node := i + 1; node != s.at.Id {
			sent = append(sent, s.signed(node, m))
		}
	}
	return sent
}
