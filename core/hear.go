package core

import (
	"slices"

	"drover/api"
	"drover/view"
	"drover/vr"
)

const most = 1 << 40 // the greatest number that a message may tell

// What a message's View is to the node, as vr's Follows tells it.
const (
	nothing = 0
	ours    = 1
	coming  = 2 // of the view that has yet to begin; all from here on is of a view that the node does not take part in
	greater = 3
)

// listens: does m come here, from another node's latest incarnation, and may its numbers be?
func (s *state) listens(m api.Msg) bool {
	bad := func(n int) bool { return n < 0 || n > most }
	return m.To == s.at.Id && m.From != s.at.Id && len(m.Incs) == s.at.N &&
		!slices.ContainsFunc([]int{m.View, m.Last, m.Num, m.Commit, m.Nonce}, bad) &&
		!vr.Stale(s.incs, m) // so is one that comes from no node at all
}

// learn: what is kept of a node's elder incarnation is forgotten: the new one does not know of it.
func (s *state) learn(incs []int) {
	known := s.incs
	s.incs = vr.Merge(known, incs)
	for i, inc := range s.incs {
		if inc > known[i] {
			delete(s.kept, i+1)
		}
	}
}

func (s *state) hear(m api.Msg) []api.Msg {
	f := vr.Follows(s.at, m)
	switch m.Kind {
	case api.MsgPrepare:
		return s.hearPrepare(m, f)
	case api.MsgPrepareOK:
		return s.hearPrepareOK(m, f)
	case api.MsgCommit:
		return s.hearCommit(m, f)
	case api.MsgStart:
		return s.hearStart(m, f)
	case api.MsgDo:
		return s.hearDo(m, f)
	case api.MsgView:
		return s.hearView(m, f)
	case api.MsgRecover:
		return s.hearRecover(m)
	case api.MsgRecovered:
		return s.hearRecovered(m)
	case api.MsgGet:
		return s.hearGet(m)
	case api.MsgNew:
		return s.hearNew(m, f)
	}
	return nil
}

func (s *state) hearPrepare(m api.Msg, f int) []api.Msg {
	return s.hearLeader(m, f, func() {
		if m.Num == s.log.Last()+1 {
			s.log.Add(m.Op) // without room it is missing, as one that was lost
		}
	})
}

func (s *state) hearCommit(m api.Msg, f int) []api.Msg {
	return s.hearLeader(m, f, func() {})
}

// hearLeader: who leads says how many operations there are and are committed; of its own view the node takes first what else is said.
func (s *state) hearLeader(m api.Msg, f int, take func()) []api.Msg {
	if f >= coming {
		return s.get(m)
	}
	if f != ours || s.leader(m.View) != m.From {
		return nil
	}
	s.set(watch)
	take()
	s.log.Commit(m.Commit)
	if m.Num > s.log.Last() {
		return s.get(m)
	}
	return s.prepareOK(m.From)
}

// get: who sent m is to tell what this node lacks.
func (s *state) get(m api.Msg) []api.Msg {
	return s.send(m.From, api.Msg{Kind: api.MsgGet, View: m.View, Num: s.log.Committed()})
}

// prepareOK: a node is told how many operations of its view's log there are here.
func (s *state) prepareOK(to int) []api.Msg {
	return s.send(to, api.Msg{Kind: api.MsgPrepareOK, View: s.at.View, Num: s.log.Last()})
}

func (s *state) hearPrepareOK(m api.Msg, f int) []api.Msg {
	if f != ours || !vr.Leads(s.at) {
		return nil
	}
	last := s.log.Last()
	s.keep(m.From, func(h *heard) { h.ack = max(h.ack, min(m.Num, last)) })
	s.log.Commit(vr.Reached(s.acks(), last, s.at.N))
	return nil
}

func (s *state) hearGet(m api.Msg) []api.Msg {
	if s.at.Phase != vr.Normal || s.at.View < m.View || m.Num > s.log.Last() {
		return nil
	}
	return s.send(m.From, api.Msg{Kind: api.MsgNew, View: s.at.View, Num: m.Num, Commit: s.log.Committed(), Ops: s.log.Since(m.Num)})
}

func (s *state) hearNew(m api.Msg, f int) []api.Msg {
	committed, reach := s.log.Committed(), m.Num+len(m.Ops)
	if f == nothing || s.leader(m.View) == s.at.Id || m.Num > committed || reach < committed {
		return nil
	}
	if f != ours || reach > s.log.Last() {
		s.log.Join(committed, m.Ops[committed-m.Num:]) // without room they are missing; no node has a log that is so long
	}
	if f != ours {
		s.enter(m.View)
	}
	s.log.Commit(m.Commit)
	return s.prepareOK(s.leader(m.View))
}

// follow: the node is for that view, if it is a greater one.
func (s *state) follow(v, f int) []api.Msg {
	if f != greater {
		return nil
	}
	return s.changeTo(v)
}

func (s *state) hearStart(m api.Msg, f int) []api.Msg {
	if f < coming {
		return nil
	}
	sent := s.follow(m.View, f)
	s.keep(m.From, func(h *heard) { h.start = true })
	if s.told || !s.enough(s.count(func(h heard) bool { return h.start })) {
		return sent
	}
	s.told = true
	if s.leader(m.View) == s.at.Id {
		s.keepLog(s.do())
		return sent
	}
	return append(sent, s.do())
}

// do: this node's own log, for who leads the view that has yet to begin.
func (s *state) do() api.Msg {
	return s.signed(s.leader(s.at.View), api.Msg{Kind: api.MsgDo, View: s.at.View, Last: s.at.Last, Commit: s.log.Committed(), Ops: s.log.Since(0)})
}

func (s *state) hearDo(m api.Msg, f int) []api.Msg {
	if f < coming {
		return nil
	}
	sent := s.follow(m.View, f)
	if s.leader(m.View) != s.at.Id {
		return sent
	}
	s.keepLog(m)
	s.keepLog(s.do())
	return append(sent, s.begin()...)
}

// begin: the view begins with the best log, if so many nodes told theirs as are enough.
func (s *state) begin() []api.Msg {
	l := s.logs()
	best, _ := view.Choose(l)
	if !s.enough(len(l)) || !s.replace(l[best].Ops, s.greatestCommit(l)) {
		return nil
	}
	s.enter(s.at.View)
	return s.toAll(api.Msg{Kind: api.MsgView, View: s.at.View, Commit: s.log.Committed(), Ops: s.log.Since(0)})
}

func (s *state) greatestCommit(l []api.Msg) int {
	commit := s.log.Committed()
	for _, m := range l {
		commit = max(commit, m.Commit)
	}
	return commit
}

// replace: there are those operations, and no others; false: that may not be.
func (s *state) replace(ops []api.Op, commit int) bool {
	return s.log.Replace(ops, commit) == api.OK
}

func (s *state) hearView(m api.Msg, f int) []api.Msg {
	if f < coming || s.leader(m.View) != m.From || !s.replace(m.Ops, s.greatestCommit([]api.Msg{m})) {
		return nil
	}
	s.enter(m.View)
	return s.prepareOK(m.From)
}

func (s *state) hearRecover(m api.Msg) []api.Msg {
	if s.at.Phase != vr.Normal {
		return nil
	}
	answer := api.Msg{Kind: api.MsgRecovered, View: s.at.View, Nonce: m.Nonce, Commit: s.log.Committed()}
	if vr.Leads(s.at) {
		answer.Lead, answer.Ops = true, s.log.Since(0)
	}
	return s.send(m.From, answer)
}

func (s *state) hearRecovered(m api.Msg) []api.Msg {
	if s.at.Phase != vr.Recover {
		return nil
	}
	s.keepLog(m)
	l := s.logs()
	i, ok := vr.Recovered(l, s.nonce, s.at.N)
	if !ok || !s.replace(l[i].Ops, l[i].Commit) {
		return nil
	}
	s.enter(l[i].View)
	return s.prepareOK(l[i].From)
}
