package hustings

import (
	"cmp"

	"hustings/api"
)

// election is what a peer knows while it is Looking.
type election struct {
	votes     map[int]api.Vote // of others, in this round
	settled   map[int]stand    // of others that are Following or Leading, of whatever round
	waits     bool
	waitsFrom int
}

// stand is how a peer votes that is Following or Leading.
type stand struct {
	vote  api.Vote
	state int
}

// better: whether a is better than b.
func better(a, b api.Vote) bool {
	return cmp.Or(cmp.Compare(a.Epoch, b.Epoch), cmp.Compare(a.News, b.News), cmp.Compare(a.Peer, b.Peer)) > 0
}

func (p *peer) look() {
	p.become(api.Looking)
	p.settled = map[int]stand{}
	p.enter(p.round+1, p.forItself())
	p.count()
}

func (p *peer) forItself() api.Vote {
	return api.Vote{Epoch: p.credential.Epoch, News: p.credential.News, Peer: p.number}
}

// enter begins a round. What the settled ones say stays, as it is of no round.
func (p *peer) enter(round int, v api.Vote) {
	p.round = round
	p.votes = map[int]api.Vote{}
	p.choose(v)
}

// choose makes a vote its own. The wait that was for another one does not count for it.
func (p *peer) choose(v api.Vote) {
	p.vote = v
	p.waits = false
	p.tell(p.others()...)
}

// tell sends its Notice.
func (p *peer) tell(to ...int) {
	p.send(api.Message{Kind: api.Notice, Round: p.round, State: p.state, Vote: p.vote}, to...)
}

func (p *peer) count() {
	same := 1
	for _, v := range p.votes {
		if v == p.vote {
			same++
		}
	}
	if !p.town.most(same) {
		p.waits = false
	} else if !p.waits {
		p.waits, p.waitsFrom = true, p.town.now
	}
}

func (p *peer) getLooking(m api.Message) {
	switch {
	case m.Kind != api.Notice:
	case m.State == api.Looking:
		p.compare(m)
	default:
		p.keep(m)
	}
}

// answerNotice is for one that is settled: only who looks needs to know of it.
func (p *peer) answerNotice(m api.Message) {
	if m.State == api.Looking {
		p.tell(m.From)
	}
}

// compare is for a Notice of one that is Looking as well.
func (p *peer) compare(m api.Message) {
	switch {
	case m.Round < p.round:
		p.tell(m.From)
		return
	case m.Round > p.round:
		p.enter(m.Round, p.betterThanItself(m.Vote))
	case better(m.Vote, p.vote):
		p.choose(m.Vote)
	}
	p.votes[m.From] = m.Vote
	p.count()
}

// betterThanItself is that vote, or the one for itself if that one is no better.
func (p *peer) betterThanItself(v api.Vote) api.Vote {
	if better(v, p.forItself()) {
		return v
	}
	return p.forItself()
}

// keep is for a Notice of one that is Following or Leading. Only the peer for whom that one votes can have got its last vote by it, so nobody else is asked for; and itself it never keeps.
func (p *peer) keep(m api.Message) {
	p.settled[m.From] = stand{m.Vote, m.State}
	x := m.Vote.Peer
	voting := 0
	for _, s := range p.settled {
		if s.vote.Peer == x {
			voting++
		}
	}
	leader := p.settled[x]
	if p.town.most(voting) && leader.state == api.Leading && leader.vote.Peer == x {
		p.follow(leader.vote)
	}
}
