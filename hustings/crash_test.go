package hustings_test

import (
	"math"
	"testing"

	"hustings/api"
)

func TestNoSuchPeer(t *testing.T) {
	for _, peers := range []int{1, 3, 7} {
		town := newTown(t, newsOf(make([]int, peers)...))
		for _, peer := range []int{-1, peers, peers + 1, math.MaxInt, math.MinInt, math.MaxUint32 + 1} {
			refused(t, "Crash", town, api.ErrArg, func() api.Errno { return town.Crash(peer) })
			refused(t, "Restart", town, api.ErrArg, func() api.Errno { return town.Restart(peer) })
			if state, err := town.State(peer); state != 0 || err != api.ErrArg {
				t.Errorf("State(%d) = %d, %d, want ErrArg", peer, state, err)
			}
			if d, err := town.Disk(peer); d != "" || err != api.ErrArg {
				t.Errorf("Disk(%d) = %q, %d, want ErrArg", peer, d, err)
			}
		}
	}
}

func TestCrashAndRestart(t *testing.T) {
	c := newsOf(5, 7, 9)
	c.Peers[1] = api.Credential{Promised: 4, To: 2, Epoch: 3, News: 7}
	for peer := range 3 {
		town := newTown(t, c)
		refused(t, "Restart of one that is up", town, api.ErrDown, func() api.Errno { return town.Restart(peer) })
		want := see(town)
		ok(t, "Crash", town.Crash(peer))
		want.states[peer] = down
		if got := see(town); !want.same(got) {
			t.Fatalf("Crash(%d):\n%+v, want\n%+v", peer, got, want)
		}
		refused(t, "Crash of one that is down", town, api.ErrDown, func() api.Errno { return town.Crash(peer) })
		ok(t, "Tick", town.Tick(30))
		if got := see(town); !want.same(got) {
			t.Fatalf("time goes by one that is down:\n%+v, want\n%+v", got, want)
		}
		dropAll(t, town)
		ok(t, "Restart", town.Restart(peer))
		var sent []api.Message
		for to := range 3 {
			if to != peer {
				sent = append(sent, notice(peer, to, 1, api.Looking, api.Vote{Epoch: c.Peers[peer].Epoch, News: c.Peers[peer].News, Peer: peer}))
			}
		}
		onItsWay(t, "Restart", town, sent...)
		states(t, "Restart", town, api.Looking, api.Looking, api.Looking)
		disk(t, "Restart", town, peer, slot(t, 1, c.Peers[peer])+emptySlot)
		refused(t, "Restart of one that is up", town, api.ErrDown, func() api.Errno { return town.Restart(peer) })
	}
}

func TestAllAreDown(t *testing.T) {
	town := newTown(t, newsOf(5, 7))
	ok(t, "Crash", town.Crash(0))
	ok(t, "Crash", town.Crash(1))
	ok(t, "Tick", town.Tick(1000))
	states(t, "all are down", town, down, down)
	deliverAll(t, town)
	states(t, "all are down", town, down, down)
	ok(t, "Restart", town.Restart(1))
	states(t, "one is up", town, down, api.Looking)
	onItsWay(t, "one is up", town, notice(1, 0, 1, api.Looking, api.Vote{News: 7, Peer: 1}))
}

// TestCrashForgets: what a peer knew, its round, its vote, its wait and its state, it knows no more when it comes up.
func TestCrashForgets(t *testing.T) {
	town := newTown(t, newsOf(5, 7, 9))
	deliver(t, town, 1, 0) // 0 votes for 1, and waits
	ok(t, "Tick", town.Tick(2))
	ok(t, "Crash", town.Crash(0))
	dropAll(t, town)
	ok(t, "Restart", town.Restart(0))
	a := api.Vote{News: 5}
	onItsWay(t, "its vote", town, notice(0, 1, 1, api.Looking, a), notice(0, 2, 1, api.Looking, a))
	dropAll(t, town)
	ok(t, "Tick", town.Tick(20))
	states(t, "its wait", town, api.Looking, api.Looking, api.Looking)

	town = elected(t, newsOf(5, 7, 9))
	ok(t, "Tick", town.Tick(8))
	dropAll(t, town)
	for peer := range 3 {
		ok(t, "Crash", town.Crash(peer))
		ok(t, "Restart", town.Restart(peer))
	}
	for _, m := range town.Messages() {
		if m.Round != 1 || m.State != api.Looking || m.Vote.Peer != m.From {
			t.Errorf("behind a crash: %+v", m)
		}
	}
}

// TestSettledOnesComeUpLooking: of one that follows and of one that leads, no more is left.
func TestSettledOnesComeUpLooking(t *testing.T) {
	town := elected(t, newsOf(5, 7))
	ok(t, "Crash", town.Crash(0))
	ok(t, "Crash", town.Crash(1))
	states(t, "down", town, down, down)
	ok(t, "Restart", town.Restart(1))
	ok(t, "Restart", town.Restart(0))
	states(t, "up", town, api.Looking, api.Looking)
	onItsWay(t, "in the order in which they come up", town,
		notice(1, 0, 1, api.Looking, api.Vote{News: 7, Peer: 1}), notice(0, 1, 1, api.Looking, api.Vote{News: 5}))
	ok(t, "Tick", town.Tick(100))
	states(t, "nobody waits", town, api.Looking, api.Looking)
}

// TestWaitOfOneThatComesUp: it begins at the time at which it comes up.
func TestWaitOfOneThatComesUp(t *testing.T) {
	town := newTown(t, newsOf(5))
	ok(t, "Tick", town.Tick(2))
	ok(t, "Crash", town.Crash(0))
	ok(t, "Tick", town.Tick(10))
	states(t, "down", town, down)
	disk(t, "down", town, 0, slot(t, 1, api.Credential{News: 5})+emptySlot)
	ok(t, "Restart", town.Restart(0))
	ok(t, "Tick", town.Tick(2))
	states(t, "two ticks", town, api.Looking)
	ok(t, "Tick", town.Tick(1))
	states(t, "three ticks", town, api.Leading)
}

// TestDiskTellsWhatWas: a peer comes up with what it wrote, and writes on from there.
func TestDiskTellsWhatWas(t *testing.T) {
	town := newTown(t, newsOf(5))
	for epoch := 1; epoch <= 4; epoch++ {
		ok(t, "Tick", town.Tick(3))
		states(t, "it leads", town, api.Leading)
		c := api.Credential{Promised: epoch, Epoch: epoch, News: 5}
		newest := slot(t, 2*epoch+1, c)
		c.Epoch--
		old := slot(t, 2*epoch, c)
		disk(t, "it leads", town, 0, newest+old)
		ok(t, "Crash", town.Crash(0))
		disk(t, "down", town, 0, newest+old)
		ok(t, "Restart", town.Restart(0))
		disk(t, "up", town, 0, newest+old)
	}
}

// TestComesLate: one that comes up when others are settled follows the one that leads.
func TestComesLate(t *testing.T) {
	town := newTown(t, newsOf(5, 7, 9))
	ok(t, "Crash", town.Crash(2))
	ok(t, "Drop", town.Drop(5))
	ok(t, "Drop", town.Drop(4))
	deliverAll(t, town)
	ok(t, "Tick", town.Tick(3))
	dropAll(t, town)
	states(t, "two of three", town, api.Following, api.Leading, down)
	ok(t, "Restart", town.Restart(2))
	deliver(t, town, 2, 1)
	deliver(t, town, 1, 2)
	states(t, "one of three says so", town, api.Following, api.Leading, api.Looking)
	// It goes down and up in between: what it had heard is forgotten.
	ok(t, "Crash", town.Crash(2))
	ok(t, "Restart", town.Restart(2))
	deliver(t, town, 2, 0)
	deliver(t, town, 0, 2)
	states(t, "one of three says so", town, api.Following, api.Leading, api.Looking)
	deliver(t, town, 2, 1)
	deliver(t, town, 1, 2)
	states(t, "two of three say so", town, api.Following, api.Leading, api.Following)
}
