package hustings

import "hustings/api"

// pingsInLease is how often a leader pings in the time that a session lasts without a word.
const pingsInLease = 4

// session is what a peer knows while it is Following (only what it has heard) or Leading.
type session struct {
	heard map[int]int // when it has heard of others
	leadership
}

// noteHeard notes that it has heard of a peer now.
func (p *peer) noteHeard(of int) { p.heard[of] = p.town.now }

func (p *peer) letTimeGoBy() {
	switch p.state {
	case api.Looking:
		if p.waits && p.since(p.waitsFrom) >= p.town.wait {
			p.settle()
		}
	case api.Following:
		if p.since(p.heard[p.vote.Peer]) >= p.town.lease {
			p.look()
		}
	case api.Leading:
		if p.since(p.leadsFrom) >= p.town.lease && !p.town.most(p.heardLately()+1) {
			p.look()
		} else if p.town.now%(p.town.lease/pingsInLease) == 0 {
			p.send(api.Message{Kind: api.Ping}, inOrder(p.joined)...)
		}
	}
}

// settle ends an election as the peer's vote says.
func (p *peer) settle() {
	if p.vote.Peer == p.number {
		p.lead()
	} else {
		p.follow(p.vote)
	}
}

// heardLately is of how many others it has heard less than Lease ticks ago.
func (p *peer) heardLately() int {
	lately := 0
	for _, then := range p.heard {
		if p.since(then) < p.town.lease {
			lately++
		}
	}
	return lately
}
