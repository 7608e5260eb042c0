package hustings

import "hustings/api"

// follow follows the peer for whom the vote is.
func (p *peer) follow(v api.Vote) {
	p.become(api.Following)
	p.vote = v
	p.send(api.Message{Kind: api.Join, Epoch: p.credential.Promised}, v.Peer)
	p.heard = map[int]int{}
	p.noteHeard(v.Peer)
}

func (p *peer) getFollowing(m api.Message) {
	switch {
	case m.Kind == api.Notice:
		p.answerNotice(m)
	case m.From == p.vote.Peer:
		p.getFromLeader(m)
	}
}

func (p *peer) getFromLeader(m api.Message) {
	switch m.Kind {
	case api.Propose:
		p.noteHeard(m.From)
		p.answerPropose(m)
	case api.Welcome:
		p.takeWelcome(m)
	case api.Ping:
		p.noteHeard(m.From)
		p.send(api.Message{Kind: api.Pong}, m.From)
	}
}

func (p *peer) answerPropose(m api.Message) {
	switch {
	case m.Epoch > p.credential.Promised:
		if p.promise(m.Epoch, m.From) {
			p.ack(m)
		}
	case p.hasPromised(m.Epoch, m.From):
		p.ack(m)
	default:
		p.look()
	}
}

// promise writes that it promises an epoch, and answers whether it goes on behind the write.
func (p *peer) promise(epoch, to int) bool {
	c := p.credential
	c.Promised, c.To = epoch, to
	return p.write(c)
}

func (p *peer) hasPromised(epoch, to int) bool {
	return p.credential.Promised == epoch && p.credential.To == to
}

// ack tells the one that proposed that its epoch is promised, and how far the peer itself is.
func (p *peer) ack(m api.Message) {
	p.send(api.Message{Kind: api.Ack, Epoch: m.Epoch, Vote: p.forItself()}, m.From)
}

// takeWelcome takes over what the leader has heard, once an epoch: a Welcome that comes again may be older than what is on the disk.
func (p *peer) takeWelcome(m api.Message) {
	if !p.hasPromised(m.Epoch, m.From) || p.credential.Epoch == m.Epoch {
		return
	}
	p.noteHeard(m.From)
	c := p.credential
	c.Epoch, c.News = m.Epoch, m.News
	p.write(c)
}
