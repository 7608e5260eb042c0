package hustings

// Tests from inside: they lay messages on their way that no peer has sent, or let a peer follow or lead that nobody has chosen.

import (
	"reflect"
	"testing"

	"hustings/api"
	"hustings/slots"
)

// town has so many peers, of which each has heard 10 more than the one ahead of it. Nothing is on its way.
func town(t *testing.T, peers int) *Town {
	t.Helper()
	var l []api.Credential
	for peer := range peers {
		l = append(l, api.Credential{News: 10 * (peer + 1)})
	}
	return townOf(t, l...)
}

// townOf has peers with these credentials. Nothing is on its way.
func townOf(t *testing.T, peers ...api.Credential) *Town {
	t.Helper()
	x, err := New(api.Config{Peers: peers, Wait: 3, Lease: 8, Net: 100})
	if err != api.OK {
		t.Fatalf("New(%+v): %d", peers, err)
	}
	x.way = nil
	return x
}

// vote is the vote for a peer of a town that town made.
func vote(peer int) api.Vote { return api.Vote{News: 10 * (peer + 1), Peer: peer} }

func notice(from, to, round, state int, v api.Vote) api.Message {
	return api.Message{Kind: api.Notice, From: from, To: to, Round: round, State: state, Vote: v}
}

func join(from, to, promised int) api.Message {
	return api.Message{Kind: api.Join, From: from, To: to, Epoch: promised}
}

func propose(from, to, epoch int) api.Message {
	return api.Message{Kind: api.Propose, From: from, To: to, Epoch: epoch}
}

func ack(from, to, epoch int, v api.Vote) api.Message {
	return api.Message{Kind: api.Ack, From: from, To: to, Epoch: epoch, Vote: v}
}

func welcome(from, to, epoch, news int) api.Message {
	return api.Message{Kind: api.Welcome, From: from, To: to, Epoch: epoch, News: news}
}

func ping(from, to int) api.Message { return api.Message{Kind: api.Ping, From: from, To: to} }

func pong(from, to int) api.Message { return api.Message{Kind: api.Pong, From: from, To: to} }

// toOthers are the Notices of one that is Looking to all others of so many.
func toOthers(from, peers, round int, v api.Vote) []api.Message {
	var l []api.Message
	for to := range peers {
		if to != from {
			l = append(l, notice(from, to, round, api.Looking, v))
		}
	}
	return l
}

// come lets a message come, whoever sent it, and answers what is sent because of it.
func (t *Town) come(m api.Message) []api.Message {
	t.way = []api.Message{m}
	t.Deliver(0)
	sent := t.way
	t.way = nil
	return sent
}

func same(t *testing.T, what string, got []api.Message, want ...api.Message) {
	t.Helper()
	if (len(got) > 0 || len(want) > 0) && !reflect.DeepEqual(got, want) {
		t.Fatalf("%s: sent\n%+v, want\n%+v", what, got, want)
	}
}

func inState(t *testing.T, what string, x *Town, peer, want int) {
	t.Helper()
	if got, err := x.State(peer); got != want || err != api.OK {
		t.Fatalf("%s: State(%d) = %d, %d, want %d", what, peer, got, err, want)
	}
}

// keeps checks the newest right slot of a peer's disk, and that the peer knows it.
func keeps(t *testing.T, what string, x *Town, peer, number int, want api.Credential) {
	t.Helper()
	d, _ := x.Disk(peer)
	c, n, _ := slots.Newest(d)
	if c != want || n != number || x.peers[peer].credential != want {
		t.Fatalf("%s: %d keeps %+v, number %d, and knows %+v, want %+v, number %d", what, peer, c, n, x.peers[peer].credential, want, number)
	}
}

func happened(t *testing.T, what string, x *Town, want ...api.Event) {
	t.Helper()
	if got := x.Events(); (len(got) > 0 || len(want) > 0) && !reflect.DeepEqual(got, want) {
		t.Fatalf("%s: Events = %+v, want %+v", what, got, want)
	}
}

// settlesIn checks that a peer is Looking until just so many ticks have gone by.
func settlesIn(t *testing.T, what string, x *Town, peer, ticks, state int) {
	t.Helper()
	for range ticks - 1 {
		x.Tick(1)
		inState(t, what, x, peer, api.Looking)
	}
	x.Tick(1)
	inState(t, what, x, peer, state)
}

// doesNotWait checks that no time lets a peer do anything.
func doesNotWait(t *testing.T, what string, x *Town, peer int) {
	t.Helper()
	for range api.MaxWait {
		x.Tick(1)
		inState(t, what, x, peer, api.Looking)
	}
}

func TestUp(t *testing.T) {
	x := town(t, 5)
	x.Crash(0)
	x.Crash(3)
	var got []int
	for p := range x.up() {
		got = append(got, p.number)
		// One that goes down while they are gone through is not gone to.
		x.Crash(2)
	}
	if want := []int{1, 4}; !reflect.DeepEqual(got, want) {
		t.Errorf("up: %v, want %v", got, want)
	}
	for p := range x.up() {
		if p.number != 1 {
			t.Errorf("the first that is up is %d", p.number)
		}
		break
	}
}

func TestFailed(t *testing.T) {
	x := town(t, 3)
	x.Crash(1)
	clear(x.peers[1].disk[:])
	broken, _ := x.Disk(1)
	if err := x.Restart(1); err != api.OK {
		t.Fatalf("Restart = %d", err)
	}
	inState(t, "no slot is right", x, 1, api.Failed)
	same(t, "Failed", x.way)
	for kind := api.Notice; kind <= api.Pong; kind++ {
		for state := api.Looking; state <= api.Leading; state++ {
			m := notice(2, 1, 1, state, vote(2))
			m.Kind = kind
			same(t, "Failed", x.come(m))
			inState(t, "Failed", x, 1, api.Failed)
		}
	}
	x.Tick(api.MaxTicks)
	inState(t, "Failed", x, 1, api.Failed)
	same(t, "Failed", x.way)
	if err := x.Restart(1); err != api.ErrDown {
		t.Errorf("Restart of a Failed one = %d, want ErrDown", err)
	}
	if err := x.Hear(1); err != api.ErrState {
		t.Errorf("Hear of a Failed one = %d, want ErrState", err)
	}
	if err := x.Arm(1, 5); err != api.OK {
		t.Errorf("Arm of a Failed one = %d", err)
	}
	if err := x.Crash(1); err != api.OK {
		t.Errorf("Crash of a Failed one = %d", err)
	}
	if state, err := x.State(1); state != 0 || err != api.ErrDown {
		t.Errorf("State = %d, %d, want ErrDown", state, err)
	}
	if d, err := x.Disk(1); d != broken || err != api.OK {
		t.Errorf("Disk = %x, %d", d, err)
	}
}

// TestNewestSlot: a peer comes up with the newest right slot, wherever it is.
func TestNewestSlot(t *testing.T) {
	x := town(t, 2)
	for _, news := range []int{100, 200, 300} {
		x.peers[0].write(api.Credential{Promised: 4, To: 1, Epoch: 3, News: news})
		x.Crash(0)
		x.Restart(0)
		want := api.Vote{Epoch: 3, News: news}
		same(t, "Restart", x.way, notice(0, 1, 1, api.Looking, want))
		x.way = nil
	}
	x.Crash(0)
	x.peers[0].disk[2*api.SlotSize-1]++ // of number 4, in the second slot
	x.Restart(0)
	same(t, "the newest is not right", x.way, notice(0, 1, 1, api.Looking, api.Vote{Epoch: 3, News: 200}))
}
