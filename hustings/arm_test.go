package hustings_test

import (
	"math"
	"slices"
	"testing"

	"hustings/api"
	"hustings/hustings"
	"hustings/slots"
)

// place is where a peer writes: a town in which the call lets it write that credential, with an event ahead of the write or none.
type place struct {
	name   string
	town   func() *hustings.Town
	peer   int
	call   func(town *hustings.Town) api.Errno
	writes api.Credential
	event  []api.Event
	sends  int // messages that come of the call if it is not armed
}

func deliverFirst(town *hustings.Town) api.Errno { return town.Deliver(0) }

// places are all of them. The messages there are of 0, 1 and 2, of whom 2 leads, at an epoch that 0 has promised first.
func places(t *testing.T) []place {
	c := newsOf(5, 7, 7)
	c.Peers[0].Promised, c.Peers[0].To = 3, 1
	begun := func(deliveries int) func() *hustings.Town {
		return func() *hustings.Town {
			town := newTown(t, c)
			deliverAll(t, town)
			ok(t, "Tick", town.Tick(c.Wait))
			ok(t, "Drop", town.Drop(1)) // 1 does not join, so that only one message is on its way
			for range deliveries {
				ok(t, "Deliver", town.Deliver(0))
			}
			return town
		}
	}
	alone := func() *hustings.Town {
		town := newTown(t, newsOf(5))
		ok(t, "Tick", town.Tick(2))
		return town
	}
	promised := api.Credential{Promised: 4, To: 2, News: 7}
	leads := api.Credential{Promised: 4, To: 2, Epoch: 4, News: 7}
	heard := api.Credential{Promised: 4, To: 2, Epoch: 4, News: 8}
	return []place{
		{"proposing", begun(0), 2, deliverFirst, promised, nil, 1},
		{"promising", begun(1), 0, deliverFirst, api.Credential{Promised: 4, To: 2, News: 5}, nil, 1},
		{"being established", begun(2), 2, deliverFirst, leads, []api.Event{{Peer: 2, Epoch: 4}}, 1},
		{"Welcome", begun(3), 0, deliverFirst, leads, nil, 0},
		{"Hear", begun(4), 2, func(town *hustings.Town) api.Errno { return town.Hear(2) }, heard, nil, 0},
		{"proposing alone", alone, 0, func(town *hustings.Town) api.Errno { return town.Tick(1) }, api.Credential{Promised: 1, News: 5}, nil, 0},
	}
}

// TestPlaces: that they are what the tests below take them for.
func TestPlaces(t *testing.T) {
	for _, p := range places(t) {
		town := p.town()
		before := see(town)
		ok(t, p.name, p.call(town))
		after := see(town)
		if got := len(after.messages) - len(before.messages[min(1, len(before.messages)):]); got != p.sends {
			t.Errorf("%s: %d are sent, want %d", p.name, got, p.sends)
		}
		if p.name == "proposing alone" { // it goes on to the next write
			continue
		}
		if got := newest(after.disks[p.peer]); got != p.writes {
			t.Errorf("%s: writes %+v, want %+v", p.name, got, p.writes)
		}
	}
}

// torn is a disk with the first bytes of its next slot.
func torn(t *testing.T, d string, c api.Credential, bytes int) string {
	t.Helper()
	_, number, at := slots.Newest(d)
	at = api.SlotSize - at
	next := slot(t, number+1, c)
	return d[:at] + next[:bytes] + d[at+bytes:]
}

func TestTornWrites(t *testing.T) {
	for _, p := range places(t) {
		for bytes := 0; bytes <= api.SlotSize; bytes++ {
			town := p.town()
			want := see(town)
			was := newest(want.disks[p.peer])
			ok(t, "Arm", town.Arm(p.peer, bytes))
			if !want.same(see(town)) {
				t.Fatalf("%s: Arm alone changed something", p.name)
			}
			ok(t, p.name, p.call(town))
			want.messages = want.messages[min(1, len(want.messages)):]
			want.events = append(want.events, p.event...)
			want.states[p.peer] = down
			want.disks[p.peer] = torn(t, want.disks[p.peer], p.writes, bytes)
			if got := see(town); !want.same(got) {
				t.Fatalf("%s, %d bytes:\n%+v, want\n%+v", p.name, bytes, got, want)
			}
			if bytes == api.SlotSize {
				was = p.writes
			}
			if is := newest(want.disks[p.peer]); is != was {
				t.Fatalf("%s, %d bytes: the newest is %+v, want %+v", p.name, bytes, is, was)
			}
			isDownFor(t, town, p.peer)
			comesUpWith(t, town, p.peer, was)
			writesOn(t, town, p.peer)
		}
	}
}

// isDownFor: one that went down in the midst of a write is down as any other.
func isDownFor(t *testing.T, town *hustings.Town, peer int) {
	t.Helper()
	refused(t, "Arm", town, api.ErrDown, func() api.Errno { return town.Arm(peer, 3) })
	refused(t, "Hear", town, api.ErrDown, func() api.Errno { return town.Hear(peer) })
	refused(t, "Crash", town, api.ErrDown, func() api.Errno { return town.Crash(peer) })
	before := see(town)
	ok(t, "Tick", town.Tick(1))
	after := see(town)
	if after.states[peer] != down || after.disks[peer] != before.disks[peer] {
		t.Fatalf("a tick goes by one that is down: %+v", after)
	}
}

// comesUpWith checks what a peer says of itself when it comes up.
func comesUpWith(t *testing.T, town *hustings.Town, peer int, c api.Credential) {
	t.Helper()
	dropAll(t, town)
	before, _ := town.Disk(peer)
	ok(t, "Restart", town.Restart(peer))
	for _, m := range town.Messages() {
		if want := (api.Vote{Epoch: c.Epoch, News: c.News, Peer: peer}); m != notice(peer, m.To, 1, api.Looking, want) {
			t.Fatalf("it comes up with %+v, and sends %+v", c, m)
		}
	}
	disk(t, "Restart writes nothing", town, peer, before)
}

// writesOn checks that a peer that has come up is not armed: when all look anew, they establish a leader, and all write.
func writesOn(t *testing.T, town *hustings.Town, peer int) {
	t.Helper()
	before := see(town)
	_, was, _ := slots.Newest(before.disks[peer])
	for peer := range before.states {
		town.Crash(peer)
		ok(t, "Restart", town.Restart(peer))
	}
	deliverAll(t, town)
	ok(t, "Tick", town.Tick(3))
	deliverAll(t, town)
	after := see(town)
	if _, is, _ := slots.Newest(after.disks[peer]); is != was+2 {
		t.Fatalf("it wrote number %d, then number %d", was, is)
	}
	if slices.Contains(after.states, down) || len(after.events) != len(before.events)+1 {
		t.Fatalf("all look anew: %+v", after)
	}
}

func TestArmIsRefused(t *testing.T) {
	town := newTown(t, newsOf(5, 7, 7))
	arm := func(peer, bytes int, want api.Errno) {
		t.Helper()
		refused(t, "Arm", town, want, func() api.Errno { return town.Arm(peer, bytes) })
	}
	far := []int{math.MaxInt, math.MinInt, math.MaxUint32 + 1, 1000}
	for _, peer := range append(far, -1, 3) {
		for _, bytes := range []int{0, 28, -1, 29} {
			arm(peer, bytes, api.ErrArg)
		}
	}
	for _, bytes := range append(far, -1, 29) {
		arm(0, bytes, api.ErrArg)
	}
	ok(t, "Crash", town.Crash(1))
	for _, bytes := range []int{0, 1, 27, 28} {
		arm(1, bytes, api.ErrDown)
	}
	for _, bytes := range append(far, -1, 29) {
		arm(1, bytes, api.ErrArg) // ahead of ErrDown
	}
	// None of them has armed any peer.
	ok(t, "Restart", town.Restart(1))
	deliverAll(t, town)
	ok(t, "Tick", town.Tick(3))
	deliverAll(t, town)
	states(t, "nobody is armed", town, api.Following, api.Following, api.Leading)
	events(t, "nobody is armed", town, api.Event{Peer: 2, Epoch: 1})
}

func TestCrashDisarms(t *testing.T) {
	for _, bytes := range []int{0, 1, 27, 28} {
		town := newTown(t, newsOf(5))
		ok(t, "Arm", town.Arm(0, bytes))
		ok(t, "Crash", town.Crash(0))
		disk(t, "nothing is written", town, 0, slot(t, 1, api.Credential{News: 5})+emptySlot)
		ok(t, "Restart", town.Restart(0))
		ok(t, "Tick", town.Tick(3))
		states(t, "disarmed", town, api.Leading)
		keeps(t, "disarmed", town, 0, 3, api.Credential{Promised: 1, Epoch: 1, News: 5})
	}
}

// TestArmAgain: what counts is what was said last; an Arm that is refused says nothing.
func TestArmAgain(t *testing.T) {
	for _, bytes := range []int{0, 13, 28} {
		town := newTown(t, newsOf(5))
		ok(t, "Arm", town.Arm(0, 20))
		ok(t, "Arm", town.Arm(0, bytes))
		answer(t, "Arm", town.Arm(0, 29), api.ErrArg)
		d, _ := town.Disk(0)
		ok(t, "Tick", town.Tick(5))
		states(t, "down", town, down)
		disk(t, "the last one counts", town, 0, torn(t, d, api.Credential{Promised: 1, News: 5}, bytes))
	}
}

// TestArmedUntilItWrites: it looks, follows, pings and loses its session as any other; only its write lets it go down.
func TestArmedUntilItWrites(t *testing.T) {
	c := newsOf(5, 7, 7)
	town, other := newTown(t, c), newTown(t, c)
	for peer := range 3 {
		ok(t, "Arm", town.Arm(peer, 9))
	}
	step := func(call func(*hustings.Town)) {
		t.Helper()
		call(town)
		call(other)
		if a, b := see(town), see(other); !a.same(b) {
			t.Fatalf("armed:\n%+v\nnot armed:\n%+v", a, b)
		}
	}
	for range 3 {
		step(func(x *hustings.Town) { deliverAll(t, x) })
		step(func(x *hustings.Town) { ok(t, "Tick", x.Tick(3)) })
		step(func(x *hustings.Town) { dropAll(t, x) })
		step(func(x *hustings.Town) { ok(t, "Tick", x.Tick(8)) })
	}
	deliverAll(t, town)
	ok(t, "Tick", town.Tick(3))
	states(t, "they join", town, api.Following, api.Following, api.Leading)
	ok(t, "Deliver", town.Deliver(0))
	states(t, "it proposes", town, api.Following, api.Following, down)
}

// TestTornAmongTicks: the rest of them go by one that is down.
func TestTornAmongTicks(t *testing.T) {
	town := newTown(t, newsOf(5))
	ok(t, "Arm", town.Arm(0, 7))
	ok(t, "Tick", town.Tick(1000))
	states(t, "down", town, down)
	ok(t, "Restart", town.Restart(0))
	ok(t, "Tick", town.Tick(2))
	states(t, "it waits from when it came up", town, api.Looking)
	ok(t, "Tick", town.Tick(1))
	states(t, "it has waited", town, api.Leading)
	events(t, "it has waited", town, api.Event{Epoch: 1})
}

// TestEstablishedThoughTorn: a leader that goes down in the write of its epoch was established, once, and the next one is in another epoch.
func TestEstablishedThoughTorn(t *testing.T) {
	for _, bytes := range []int{0, 1, 27, 28} {
		town := newTown(t, newsOf(5, 7, 7))
		deliverAll(t, town)
		ok(t, "Tick", town.Tick(3))
		deliver(t, town, 0, 2)
		deliver(t, town, 2, 0)
		ok(t, "Arm", town.Arm(2, bytes))
		deliver(t, town, 0, 2)
		events(t, "established", town, api.Event{Peer: 2, Epoch: 1})
		onItsWay(t, "no Welcome", town, join(1, 2, 0))
		ok(t, "Restart", town.Restart(2))
		dropAll(t, town)
		ok(t, "Tick", town.Tick(8))
		deliverAll(t, town)
		ok(t, "Tick", town.Tick(3))
		deliverAll(t, town)
		events(t, "the next epoch", town, api.Event{Peer: 2, Epoch: 1}, api.Event{Peer: 2, Epoch: 2})
	}
}

// TestPromisedThoughTorn: a promise of which all bytes were laid stands, though nobody was told of it. To the one that has it, it is acked without a further write; to another one it is not given.
func TestPromisedThoughTorn(t *testing.T) {
	for bytes, promised := range map[int]int{0: 0, 27: 0, 28: 1} {
		town := newTown(t, newsOf(5, 7, 7))
		deliverAll(t, town)
		ok(t, "Tick", town.Tick(3))
		deliver(t, town, 0, 2)
		deliver(t, town, 1, 2)
		ok(t, "Arm", town.Arm(0, bytes))
		deliver(t, town, 2, 0)
		states(t, "torn", town, down, api.Following, api.Leading)
		onItsWay(t, "no Ack", town, propose(2, 1, 1))
		dropAll(t, town)
		ok(t, "Restart", town.Restart(0))
		deliver(t, town, 0, 1)
		deliver(t, town, 0, 2)
		deliver(t, town, 1, 0)
		deliver(t, town, 2, 0)
		onItsWay(t, "it joins again", town, join(0, 2, promised))
		deliver(t, town, 0, 2)
		deliver(t, town, 2, 0)
		onItsWay(t, "it acks", town, ack(0, 2, 1, api.Vote{News: 5}))
		keeps(t, "it acks", town, 0, 2, api.Credential{Promised: 1, To: 2, News: 5})
		deliverAll(t, town)
		events(t, "it acks", town, api.Event{Peer: 2, Epoch: 1})
	}
}
