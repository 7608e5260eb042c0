package hustings

import (
	"maps"
	"slices"

	"hustings/api"
)

// pingsInLease is how often a leader pings in the time that a session lasts without a word.
const pingsInLease = 4

// session is what a peer knows while it is Following (only what it has heard) or Leading.
type session struct {
	heard       map[int]int // when it has heard of others
	leadsFrom   int
	epoch       int
	joined      map[int]int      // others, with the epoch that each has promised
	acked       map[int]struct{} // those that have promised its epoch, itself too
	established bool
}

// follow follows the peer for whom the vote is.
func (p *peer) follow(v api.Vote) {
	p.become(api.Following)
	p.vote = v
	p.send(api.Message{Kind: api.Join, Epoch: p.credential.Promised}, v.Peer)
	p.heard = map[int]int{v.Peer: p.town.now}
}

func (p *peer) lead() {
	p.become(api.Leading)
	p.leadsFrom = p.town.now
	p.heard, p.joined, p.acked = map[int]int{}, map[int]int{}, map[int]struct{}{}
	// Nobody will join the only peer, so nothing else would let it go on.
	if len(p.town.peers) == 1 {
		p.propose()
	}
}

func (p *peer) propose() {
	p.epoch = p.credential.Promised + 1
	for _, promised := range p.joined {
		p.epoch = max(p.epoch, promised+1)
	}
	if p.epoch > api.MaxEpoch {
		p.look()
		return
	}
	c := p.credential
	c.Promised, c.To = p.epoch, p.number
	p.write(c)
	p.acked[p.number] = struct{}{}
	p.send(api.Message{Kind: api.Propose, Epoch: p.epoch}, inOrder(p.joined)...)
	p.check()
}

func (p *peer) check() {
	if p.established || !p.town.most(len(p.acked)) {
		return
	}
	p.established = true
	c := p.credential
	c.Epoch = p.epoch
	p.write(c)
	welcome := api.Message{Kind: api.Welcome, Epoch: p.epoch, News: p.credential.News}
	for _, peer := range inOrder(p.acked) {
		if peer != p.number {
			p.send(welcome, peer)
		}
	}
}

// inOrder are the peers of which a map knows, sorted, since a map tells them in any order.
func inOrder[V any](of map[int]V) []int { return slices.Sorted(maps.Keys(of)) }

func (p *peer) letTimeGoBy() {
	switch p.state {
	case api.Looking:
		if p.waits && p.since(p.waitsFrom) >= p.town.wait {
			p.settle()
		}
	case api.Following:
		if p.since(p.heard[p.vote.Peer]) >= p.town.lease {
			p.look()
		}
	case api.Leading:
		if p.since(p.leadsFrom) >= p.town.lease && !p.town.most(p.heardLately()+1) {
			p.look()
		} else if p.town.now%(p.town.lease/pingsInLease) == 0 {
			p.send(api.Message{Kind: api.Ping}, inOrder(p.joined)...)
		}
	}
}

// settle ends an election as the peer's vote says.
func (p *peer) settle() {
	if p.vote.Peer == p.number {
		p.lead()
	} else {
		p.follow(p.vote)
	}
}

// heardLately is of how many others it has heard less than Lease ticks ago.
func (p *peer) heardLately() int {
	lately := 0
	for _, then := range p.heard {
		if p.since(then) < p.town.lease {
			lately++
		}
	}
	return lately
}
