package hustings

// Tests from inside: they lay messages on their way that no peer has sent, or let a peer know what no call lets it know yet.

import (
	"reflect"
	"testing"

	"hustings/api"
)

// town has so many peers, of which each has heard 10 more than the one ahead of it. Nothing is on its way.
func town(t *testing.T, peers int) *Town {
	t.Helper()
	c := api.Config{Wait: 3, Lease: 8, Net: 100}
	for peer := range peers {
		c.Peers = append(c.Peers, api.Credential{News: 10 * (peer + 1)})
	}
	x, err := New(c)
	if err != api.OK {
		t.Fatalf("New(%+v): %d", c, err)
	}
	x.way = nil
	return x
}

// vote is the vote for a peer of such a town.
func vote(peer int) api.Vote { return api.Vote{News: 10 * (peer + 1), Peer: peer} }

func notice(from, to, round, state int, v api.Vote) api.Message {
	return api.Message{Kind: api.Notice, From: from, To: to, Round: round, State: state, Vote: v}
}

// toOthers are the Notices of one that is Looking to all others of so many.
func toOthers(from, peers, round int, v api.Vote) []api.Message {
	var l []api.Message
	for to := range peers {
		if to != from {
			l = append(l, notice(from, to, round, api.Looking, v))
		}
	}
	return l
}

// come lets a message come, whoever sent it, and answers what is sent because of it.
func (t *Town) come(m api.Message) []api.Message {
	t.way = []api.Message{m}
	t.Deliver(0)
	sent := t.way
	t.way = nil
	return sent
}

func same(t *testing.T, what string, got []api.Message, want ...api.Message) {
	t.Helper()
	if (len(got) > 0 || len(want) > 0) && !reflect.DeepEqual(got, want) {
		t.Fatalf("%s: sent\n%+v, want\n%+v", what, got, want)
	}
}

func inState(t *testing.T, what string, x *Town, peer, want int) {
	t.Helper()
	if got, err := x.State(peer); got != want || err != api.OK {
		t.Fatalf("%s: State(%d) = %d, %d, want %d", what, peer, got, err, want)
	}
}

// settlesIn checks that a peer is Looking until just so many ticks have gone by.
func settlesIn(t *testing.T, what string, x *Town, peer, ticks, state int) {
	t.Helper()
	for range ticks - 1 {
		x.Tick(1)
		inState(t, what, x, peer, api.Looking)
	}
	x.Tick(1)
	inState(t, what, x, peer, state)
}

// doesNotWait checks that no time lets a peer do anything.
func doesNotWait(t *testing.T, what string, x *Town, peer int) {
	t.Helper()
	for range api.MaxWait {
		x.Tick(1)
		inState(t, what, x, peer, api.Looking)
	}
}

func TestUp(t *testing.T) {
	x := town(t, 5)
	x.Crash(0)
	x.Crash(3)
	var got []int
	for p := range x.up() {
		got = append(got, p.number)
		// One that goes down while they are gone through is not gone to.
		x.Crash(2)
	}
	if want := []int{1, 4}; !reflect.DeepEqual(got, want) {
		t.Errorf("up: %v, want %v", got, want)
	}
	for p := range x.up() {
		if p.number != 1 {
			t.Errorf("the first that is up is %d", p.number)
		}
		break
	}
}

func TestFailed(t *testing.T) {
	x := town(t, 3)
	x.Crash(1)
	clear(x.peers[1].disk[:])
	broken, _ := x.Disk(1)
	if err := x.Restart(1); err != api.OK {
		t.Fatalf("Restart = %d", err)
	}
	inState(t, "no slot is right", x, 1, api.Failed)
	same(t, "Failed", x.way)
	for kind := api.Notice; kind <= api.Pong; kind++ {
		for state := api.Looking; state <= api.Leading; state++ {
			m := notice(2, 1, 1, state, vote(2))
			m.Kind = kind
			same(t, "Failed", x.come(m))
			inState(t, "Failed", x, 1, api.Failed)
		}
	}
	x.Tick(api.MaxTicks)
	inState(t, "Failed", x, 1, api.Failed)
	same(t, "Failed", x.way)
	if err := x.Restart(1); err != api.ErrDown {
		t.Errorf("Restart of a Failed one = %d, want ErrDown", err)
	}
	if err := x.Crash(1); err != api.OK {
		t.Errorf("Crash of a Failed one = %d", err)
	}
	if state, err := x.State(1); state != 0 || err != api.ErrDown {
		t.Errorf("State = %d, %d, want ErrDown", state, err)
	}
	if d, err := x.Disk(1); d != broken || err != api.OK {
		t.Errorf("Disk = %x, %d", d, err)
	}
}

// TestNewestSlot: a peer comes up with the newest right slot, wherever it is.
func TestNewestSlot(t *testing.T) {
	x := town(t, 2)
	for _, news := range []int{100, 200, 300} {
		x.peers[0].write(api.Credential{Promised: 4, To: 1, Epoch: 3, News: news})
		x.Crash(0)
		x.Restart(0)
		want := api.Vote{Epoch: 3, News: news}
		same(t, "Restart", x.way, notice(0, 1, 1, api.Looking, want))
		x.way = nil
	}
	x.Crash(0)
	x.peers[0].disk[2*api.SlotSize-1]++ // of number 4, in the second slot
	x.Restart(0)
	same(t, "the newest is not right", x.way, notice(0, 1, 1, api.Looking, api.Vote{Epoch: 3, News: 200}))
}

// leading is a town in which a peer leads, since now.
func leading(t *testing.T, peers, lease, leader int) (*Town, *peer) {
	t.Helper()
	x := town(t, peers)
	x.lease = lease
	p := x.peers[leader]
	p.lead()
	return x, p
}

func TestPings(t *testing.T) {
	for lease, every := range map[int]int{4: 1, 7: 1, 8: 2, 11: 2, 12: 3, 99: 24, 100: 25} {
		x, p := leading(t, 5, lease, 2)
		x.now, p.leadsFrom = 5, 5 // the pings hang on the time, not on when it began to lead
		for range 5 * lease {
			p.joined[4], p.joined[0] = 0, 0
			p.heard[0], p.heard[4] = x.now, x.now
			x.way = nil
			x.Tick(1)
			inState(t, "heard of", x, 2, api.Leading)
			if x.now%every == 0 {
				same(t, "Ping", x.way, api.Message{Kind: api.Ping, From: 2, To: 0}, api.Message{Kind: api.Ping, From: 2, To: 4})
			} else {
				same(t, "no Ping", x.way)
			}
		}
	}
}

// TestHeardLately: a leader looks if it has not heard lately of most, and does not ping then.
func TestHeardLately(t *testing.T) {
	for _, c := range []struct {
		peers int
		ago   []int // of how many others it has heard, at its tick, and how long ago
		leads bool
	}{
		{5, nil, false},
		{5, []int{0}, false},
		{5, []int{7, 7}, true},
		{5, []int{7, 8}, false},
		{5, []int{8, 8, 8, 8}, false},
		{5, []int{8, 8, 7, 7}, true},
		{4, []int{0}, false},
		{4, []int{0, 7}, true},
		{2, []int{7}, true},
		{2, []int{8}, false},
		{2, nil, false},
	} {
		x, p := leading(t, c.peers, 8, c.peers-1)
		p.joined[0] = 0
		for peer, ago := range c.ago {
			p.heard[peer] = x.now + 8 - ago
		}
		x.Tick(7)
		inState(t, "no Lease has gone by", x, p.number, api.Leading)
		x.way = nil
		x.Tick(1)
		if c.leads {
			inState(t, "heard of most", x, p.number, api.Leading)
			same(t, "heard of most", x.way, api.Message{Kind: api.Ping, From: p.number, To: 0})
		} else {
			inState(t, "not heard of most", x, p.number, api.Looking)
			same(t, "not heard of most", x.way, toOthers(p.number, c.peers, 2, vote(p.number))...)
		}
	}
}

func TestPropose(t *testing.T) {
	x, p := leading(t, 5, 8, 2)
	p.credential.Promised, p.credential.Epoch = 6, 5
	p.joined[4], p.joined[1], p.joined[0] = 7, 9, 2
	p.propose()
	propose := func(to int) api.Message { return api.Message{Kind: api.Propose, From: 2, To: to, Epoch: 10} }
	same(t, "Propose", x.way, propose(0), propose(1), propose(4))
	if want := (api.Credential{Promised: 10, To: 2, Epoch: 5, News: 30}); p.credential != want || p.established {
		t.Errorf("proposed: %+v, established: %v, want %+v", p.credential, p.established, want)
	}
	x.way = nil
	p.acked[3], p.acked[0] = struct{}{}, struct{}{}
	for range 2 {
		p.check()
		welcome := func(to int) api.Message { return api.Message{Kind: api.Welcome, From: 2, To: to, Epoch: 10, News: 30} }
		same(t, "Welcome", x.way, welcome(0), welcome(3))
		if want := (api.Credential{Promised: 10, To: 2, Epoch: 10, News: 30}); p.credential != want || !p.established {
			t.Errorf("established: %+v, %v, want %+v", p.credential, p.established, want)
		}
	}
}

// TestLeadsAnew: of what it was when it led before, nothing is left.
func TestLeadsAnew(t *testing.T) {
	x, p := leading(t, 3, 8, 2)
	p.joined[0], p.acked[0], p.heard[0] = 5, struct{}{}, 0
	p.propose()
	x.way = nil
	x.Tick(8)
	inState(t, "it has not heard of 0", x, 2, api.Looking)
	p.lead()
	if len(p.joined)+len(p.acked)+len(p.heard) != 0 || p.epoch != 0 || p.established || p.leadsFrom != 8 {
		t.Errorf("it leads anew: %+v", p.session)
	}
}

func TestProposeAboveAllEpochs(t *testing.T) {
	for _, joined := range []int{999, 1000} {
		x, p := leading(t, 3, 8, 2)
		p.joined[0] = joined
		before, _ := x.Disk(2)
		p.propose()
		after, _ := x.Disk(2)
		if joined == 999 {
			inState(t, "the last epoch", x, 2, api.Leading)
			continue
		}
		inState(t, "no epoch is left", x, 2, api.Looking)
		same(t, "no epoch is left", x.way, toOthers(2, 3, 2, vote(2))...)
		if before != after {
			t.Errorf("no epoch is left, but the disk is %x", after)
		}
	}
}
