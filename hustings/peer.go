package hustings

import (
	"hustings/api"
	"hustings/slots"
)

// order is what a town's owner wants of a peer.
type order struct {
	kind  orderKind
	bytes int // of arm
}

type orderKind int

const (
	comeUp orderKind = iota
	goDown
	arm
	hear
)

// peer is one of a town. What happens to it comes by one of its channels.
type peer struct {
	town     *Town
	number   int
	disk     [2 * api.SlotSize]byte
	up       bool
	messages chan api.Message
	ticks    chan struct{}
	orders   chan order
	mind
}

// mind is what a peer has only as long as it is up. That it is armed is kept here so that going down disarms it.
type mind struct {
	armed      bool
	bytes      int // that an armed one lays of its next slot
	credential api.Credential
	state      int
	round      int
	vote       api.Vote
	election
	session
}

// newPeer makes a peer that is down. Each channel has room for one event, as it is laid there and taken by one goroutine.
func newPeer(t *Town, number int, first api.Credential) *peer {
	p := &peer{
		town:     t,
		number:   number,
		messages: make(chan api.Message, 1),
		ticks:    make(chan struct{}, 1),
		orders:   make(chan order, 1),
	}
	p.write(first)
	return p
}

func (p *peer) deliver(m api.Message) {
	p.messages <- m
	p.takeEvent()
}

func (p *peer) tick() {
	p.ticks <- struct{}{}
	p.takeEvent()
}

func (p *peer) order(o order) {
	p.orders <- o
	p.takeEvent()
}

// takeEvent never finds two channels ready: one event is laid at a time, and taken before the next one.
func (p *peer) takeEvent() {
	select {
	case m := <-p.messages:
		p.get(m)
	case <-p.ticks:
		p.letTimeGoBy()
	case o := <-p.orders:
		p.obey(o)
	}
}

func (p *peer) obey(o order) {
	switch o.kind {
	case comeUp:
		p.comeUp()
	case goDown:
		p.goDown()
	case arm:
		p.armed, p.bytes = true, o.bytes
	case hear:
		p.hearNews()
	}
}

// get does nothing with what its state does not name.
func (p *peer) get(m api.Message) {
	switch p.state {
	case api.Looking:
		p.getLooking(m)
	case api.Following:
		p.getFollowing(m)
	case api.Leading:
		p.getLeading(m)
	}
}

func (p *peer) comeUp() {
	c, _, at := slots.Newest(string(p.disk[:]))
	p.up, p.credential = true, c
	if at < 0 {
		p.state = api.Failed
		return
	}
	p.look()
}

func (p *peer) goDown() { p.up, p.mind = false, mind{} }

// write lays the next slot, of which the disk itself tells the number: on an empty one it is the first. It answers whether the peer goes on: an armed one goes down, and then nothing behind the write may be done.
func (p *peer) write(c api.Credential) bool {
	_, newest, _ := slots.Newest(string(p.disk[:]))
	number := newest + 1
	at := 0
	if number%2 == 0 {
		at = api.SlotSize
	}
	slot, _ := slots.Encode(number, c)
	if p.armed {
		slot = slot[:min(p.bytes, len(slot))]
	}
	copy(p.disk[at:], slot)
	if p.armed {
		p.goDown()
		return false
	}
	p.credential = c
	return true
}

// become forgets what only the state before needed.
func (p *peer) become(state int) {
	p.state, p.election, p.session = state, election{}, session{}
}

// send sends a message to each of the peers that are named. One for which there is no room is lost.
func (p *peer) send(m api.Message, to ...int) {
	m.From = p.number
	for _, peer := range to {
		m.To = peer
		p.town.lay(m)
	}
}

// others are all peers but itself, in their order.
func (p *peer) others() []int {
	var others []int
	for peer := range p.town.peers {
		if peer != p.number {
			others = append(others, peer)
		}
	}
	return others
}

// since is how many ticks have gone by since then.
func (p *peer) since(then int) int { return p.town.now - then }
