package hustings

import (
	"cmp"
	"maps"
	"slices"

	"hustings/api"
)

// noEpoch: all epochs that are proposed are above it.
const noEpoch = 0

// leadership is what a peer knows while it is Leading.
type leadership struct {
	leadsFrom   int
	epoch       int
	joined      map[int]int      // others, with the epoch that each has promised
	acked       map[int]struct{} // others that have promised its epoch
	established bool
}

func (p *peer) lead() {
	p.become(api.Leading)
	p.leadsFrom = p.town.now
	p.heard, p.joined, p.acked = map[int]int{}, map[int]int{}, map[int]struct{}{}
	// Nobody will join the only peer, so nothing else would let it go on.
	if len(p.town.peers) == 1 {
		p.propose()
	}
}

func (p *peer) propose() {
	p.epoch = p.credential.Promised + 1
	for _, promised := range p.joined {
		p.epoch = max(p.epoch, promised+1)
	}
	if p.epoch > api.MaxEpoch {
		p.look()
		return
	}
	if !p.promise(p.epoch, p.number) {
		return
	}
	p.send(p.proposal(), inOrder(p.joined)...)
	p.check()
}

func (p *peer) proposal() api.Message { return api.Message{Kind: api.Propose, Epoch: p.epoch} }

// check establishes the leader when most have acked. Its own promise counts as one, as it is at an epoch only behind that.
func (p *peer) check() {
	if p.established || !p.town.most(len(p.acked)+1) {
		return
	}
	p.established = true
	// The epoch is its own from now on, even if it goes down in the midst of the write.
	p.town.events = append(p.town.events, api.Event{Peer: p.number, Epoch: p.epoch})
	c := p.credential
	c.Epoch = p.epoch
	if p.write(c) {
		p.welcome(inOrder(p.acked)...)
	}
}

func (p *peer) welcome(to ...int) {
	p.send(api.Message{Kind: api.Welcome, Epoch: p.epoch, News: p.credential.News}, to...)
}

func (p *peer) getLeading(m api.Message) {
	switch m.Kind {
	case api.Notice:
		p.answerNotice(m)
	case api.Join:
		p.noteHeard(m.From)
		p.takeJoin(m)
	case api.Ack:
		if m.Epoch == p.epoch {
			p.noteHeard(m.From)
			p.takeAck(m)
		}
	case api.Pong:
		p.noteHeard(m.From)
	}
}

func (p *peer) takeJoin(m api.Message) {
	p.joined[m.From] = m.Epoch
	switch {
	case p.epoch == noEpoch:
		if p.town.most(len(p.joined) + 1) {
			p.propose()
		}
	case m.Epoch > p.epoch:
		p.look()
	default:
		p.send(p.proposal(), m.From)
	}
}

func (p *peer) takeAck(m api.Message) {
	if !p.established && p.isBehind(m.Vote) {
		p.look()
		return
	}
	p.acked[m.From] = struct{}{}
	if p.established {
		p.welcome(m.From)
	} else {
		p.check()
	}
}

// isBehind: whether the one that votes so is further than the peer. Who it is does not count here.
func (p *peer) isBehind(v api.Vote) bool {
	own := p.credential
	return cmp.Or(cmp.Compare(own.Epoch, v.Epoch), cmp.Compare(own.News, v.News)) < 0
}

// hearNews is for a leader that is established.
func (p *peer) hearNews() {
	c := p.credential
	c.News++
	p.write(c)
}

// inOrder are the peers of which a map knows, sorted, since a map tells them in any order.
func inOrder[V any](of map[int]V) []int { return slices.Sorted(maps.Keys(of)) }
