package hustings_test

import (
	"slices"
	"testing"

	"hustings/api"
)

// TestThreePeers: the document's example, with what is to be seen at each step.
func TestThreePeers(t *testing.T) {
	town := newTown(t, newsOf(5, 7, 7))
	if n := len(town.Messages()); n != 6 {
		t.Fatalf("%d messages at first", n)
	}
	deliverAll(t, town)
	events(t, "elected", town)
	ok(t, "Tick", town.Tick(3))
	onItsWay(t, "they join", town, join(0, 2, 0), join(1, 2, 0))
	events(t, "they join", town)

	ok(t, "Deliver", town.Deliver(0))
	onItsWay(t, "two of three", town, join(1, 2, 0), propose(2, 0, 1))
	keeps(t, "two of three", town, 2, 2, api.Credential{Promised: 1, To: 2, News: 7})
	events(t, "proposed", town)
	ok(t, "Deliver", town.Deliver(1))
	onItsWay(t, "0 promises", town, join(1, 2, 0), ack(0, 2, 1, api.Vote{News: 5}))
	keeps(t, "0 promises", town, 0, 2, api.Credential{Promised: 1, To: 2, News: 5})
	events(t, "0 promises", town)
	ok(t, "Deliver", town.Deliver(1))
	onItsWay(t, "established", town, join(1, 2, 0), welcome(2, 0, 1, 7))
	keeps(t, "established", town, 2, 3, api.Credential{Promised: 1, To: 2, Epoch: 1, News: 7})
	events(t, "established", town, api.Event{Peer: 2, Epoch: 1})
	ok(t, "Deliver", town.Deliver(1))
	onItsWay(t, "0 is welcome", town, join(1, 2, 0))
	keeps(t, "0 is welcome", town, 0, 3, api.Credential{Promised: 1, To: 2, Epoch: 1, News: 7})

	ok(t, "Deliver", town.Deliver(0))
	onItsWay(t, "1 joins late", town, propose(2, 1, 1))
	ok(t, "Deliver", town.Deliver(0))
	onItsWay(t, "1 promises", town, ack(1, 2, 1, api.Vote{News: 7, Peer: 1}))
	ok(t, "Deliver", town.Deliver(0))
	onItsWay(t, "1 acks late", town, welcome(2, 1, 1, 7))
	ok(t, "Deliver", town.Deliver(0))
	onItsWay(t, "1 is welcome", town)
	keeps(t, "1 is welcome", town, 1, 3, api.Credential{Promised: 1, To: 2, Epoch: 1, News: 7})
	states(t, "all is delivered", town, api.Following, api.Following, api.Leading)
	events(t, "once", town, api.Event{Peer: 2, Epoch: 1})
}

// TestOneEpochBehindTheOther: each leader that is lost is followed by the best of the others, in the next epoch.
func TestOneEpochBehindTheOther(t *testing.T) {
	c := newsOf(1, 2, 3, 4, 5)
	town := established(t, c)
	want := []api.Event{{Peer: 4, Epoch: 1}}
	events(t, "at first", town, want...)
	for i, leader := range []int{4, 3} {
		ok(t, "Hear", town.Hear(leader))
		ok(t, "Crash", town.Crash(leader))
		ok(t, "Tick", town.Tick(8))
		deliverAll(t, town)
		ok(t, "Tick", town.Tick(3))
		deliverAll(t, town)
		want = append(want, api.Event{Peer: leader - 1, Epoch: i + 2})
		events(t, "the next best", town, want...)
	}
	states(t, "three are left", town, api.Following, api.Following, api.Leading, down, down)
	keeps(t, "it is in its epoch", town, 2, 7, api.Credential{Promised: 3, To: 2, Epoch: 3, News: 5})
	keeps(t, "its last was the second", town, 3, 6, api.Credential{Promised: 2, To: 3, Epoch: 2, News: 6})
	// The lost ones come back: whom the others follow, they follow, and they take what it has heard.
	ok(t, "Restart", town.Restart(4))
	ok(t, "Restart", town.Restart(3))
	deliverAll(t, town)
	states(t, "all are up", town, api.Following, api.Following, api.Leading, api.Following, api.Following)
	for _, peer := range []int{3, 4} {
		d, _ := town.Disk(peer)
		if want := (api.Credential{Promised: 3, To: 2, Epoch: 3, News: 5}); newest(d) != want {
			t.Errorf("%d keeps %+v, want %+v", peer, newest(d), want)
		}
	}
	events(t, "no more", town, want...)
}

// TestASessionLasts: as long as Pings and Pongs come, nobody looks; without them all do.
func TestASessionLasts(t *testing.T) {
	town := established(t, newsOf(5, 7, 7))
	for now := 4; now <= 60; now++ {
		ok(t, "Tick", town.Tick(1))
		if now%2 == 0 {
			onItsWay(t, "Ping", town, ping(2, 0), ping(2, 1))
			ok(t, "Deliver", town.Deliver(1))
			onItsWay(t, "Pong", town, ping(2, 0), pong(1, 2))
			ok(t, "Deliver", town.Deliver(0))
			onItsWay(t, "Pong", town, pong(1, 2), pong(0, 2))
		}
		deliverAll(t, town)
		states(t, "a session", town, api.Following, api.Following, api.Leading)
	}
	// Of one other it hears on: itself and that one are most.
	for now := 61; now <= 80; now++ {
		ok(t, "Tick", town.Tick(1))
		for i, m := range slices.Backward(town.Messages()) {
			if m.From == 0 || m.To == 0 {
				ok(t, "Drop", town.Drop(i))
			}
		}
		deliverAll(t, town)
		want := []int{api.Following, api.Following, api.Leading}
		if now >= 68 {
			want[0] = api.Looking
		}
		states(t, "most", town, want...)
	}
	// At 80 it has heard of 1 for the last time.
	ok(t, "Tick", town.Tick(7))
	states(t, "seven ticks", town, api.Looking, api.Following, api.Leading)
	ok(t, "Tick", town.Tick(1))
	states(t, "eight ticks", town, api.Looking, api.Looking, api.Looking)
	events(t, "once", town, api.Event{Peer: 2, Epoch: 1})
}

func TestEventsOfTheOnlyPeer(t *testing.T) {
	c := newsOf(5)
	c.Peers[0].Promised = 997
	town := newTown(t, c)
	ok(t, "Tick", town.Tick(2))
	events(t, "it waits", town)
	var want []api.Event
	for epoch := 998; epoch <= 1000; epoch++ {
		ok(t, "Tick", town.Tick(3))
		want = append(want, api.Event{Epoch: epoch})
		events(t, "it leads", town, want...)
		ok(t, "Tick", town.Tick(500))
		events(t, "it leads on", town, want...)
		ok(t, "Crash", town.Crash(0))
		ok(t, "Restart", town.Restart(0))
		events(t, "it looks", town, want...)
	}
	ok(t, "Tick", town.Tick(1000))
	events(t, "no epoch is left", town, want...)
	states(t, "no epoch is left", town, api.Looking)
}

func TestEventsAreTheCallers(t *testing.T) {
	town := established(t, newsOf(5, 7))
	want := see(town)
	for range 3 {
		l := town.Events()
		clear(l)
		l = l[:cap(l)]
		for i := range l {
			l[i] = api.Event{Peer: 99, Epoch: 99}
		}
		if got := see(town); !want.same(got) {
			t.Fatalf("what was written over was the town's: %+v", got)
		}
	}
	kept := town.Events()
	ok(t, "Crash", town.Crash(1))
	ok(t, "Restart", town.Restart(1))
	ok(t, "Tick", town.Tick(8))
	deliverAll(t, town)
	ok(t, "Tick", town.Tick(3))
	deliverAll(t, town)
	events(t, "one more", town, api.Event{Peer: 1, Epoch: 1}, api.Event{Peer: 1, Epoch: 2})
	if !slices.Equal(kept, []api.Event{{Peer: 1, Epoch: 1}}) {
		t.Errorf("the town wrote into a list that it had handed out: %+v", kept)
	}
}

// TestNoRoomInASession: what has no room is lost, and what is delivered gives room.
func TestNoRoomInASession(t *testing.T) {
	c := newsOf(9, 1)
	c.Net = 1
	town := newTown(t, c)
	ok(t, "Deliver", town.Deliver(0))
	ok(t, "Deliver", town.Deliver(0)) // both vote for 0
	ok(t, "Tick", town.Tick(3))
	onItsWay(t, "Join", town, join(1, 0, 0))
	ok(t, "Tick", town.Tick(1)) // nobody has joined: no Ping
	ok(t, "Deliver", town.Deliver(0))
	onItsWay(t, "Propose", town, propose(0, 1, 1))
	ok(t, "Tick", town.Tick(2))
	onItsWay(t, "no room for a Ping", town, propose(0, 1, 1))
	ok(t, "Deliver", town.Deliver(0))
	onItsWay(t, "Ack", town, ack(1, 0, 1, api.Vote{News: 1, Peer: 1}))
	ok(t, "Deliver", town.Deliver(0))
	onItsWay(t, "Welcome", town, welcome(0, 1, 1, 9))
	events(t, "established", town, api.Event{Epoch: 1})
	ok(t, "Tick", town.Tick(2))
	onItsWay(t, "no room for a Ping", town, welcome(0, 1, 1, 9))
	ok(t, "Deliver", town.Deliver(0))
	keeps(t, "Welcome", town, 1, 3, api.Credential{Promised: 1, Epoch: 1, News: 9})
}

// TestWelcomesWithoutRoom: the first has the room that there is, the other is lost, and the leader is established all the same.
func TestWelcomesWithoutRoom(t *testing.T) {
	c := newsOf(1, 2, 3, 4, 9)
	c.Net = 100
	town := newTown(t, c)
	deliverAll(t, town)
	ok(t, "Tick", town.Tick(3))
	for _, peer := range []int{0, 1} {
		deliver(t, town, peer, 4)
	}
	for _, peer := range []int{1, 0} {
		deliver(t, town, 4, peer)
	}
	onItsWay(t, "Acks", town, join(2, 4, 0), join(3, 4, 0), ack(1, 4, 1, api.Vote{News: 2, Peer: 1}), ack(0, 4, 1, api.Vote{News: 1}))
	ok(t, "Deliver", town.Deliver(3))
	events(t, "two of five", town)
	for range 97 {
		ok(t, "Copy", town.Copy(0))
	}
	ok(t, "Deliver", town.Deliver(2))
	l := town.Messages()
	if len(l) != 100 || l[98] != join(2, 4, 0) || l[99] != welcome(4, 0, 1, 9) {
		t.Fatalf("%d messages, the last %+v", len(l), l[len(l)-2:])
	}
	events(t, "three of five", town, api.Event{Peer: 4, Epoch: 1})
	keeps(t, "three of five", town, 4, 3, api.Credential{Promised: 1, To: 4, Epoch: 1, News: 9})
}
