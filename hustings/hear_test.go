package hustings_test

import (
	"math"
	"testing"

	"hustings/api"
)

func TestHear(t *testing.T) {
	town := established(t, newsOf(5, 7, 7))
	for n := 1; n <= 5; n++ {
		before := see(town)
		ok(t, "Hear", town.Hear(2))
		c := api.Credential{Promised: 1, To: 2, Epoch: 1, News: 7 + n}
		keeps(t, "Hear", town, 2, 3+n, c)
		before.disks[2], _ = town.Disk(2)
		if !before.same(see(town)) {
			t.Fatal("Hear did more than write")
		}
	}
	was := api.Credential{Promised: 1, To: 2, Epoch: 1, News: 11}
	is := api.Credential{Promised: 1, To: 2, Epoch: 1, News: 12}
	disk(t, "Hear", town, 2, slot(t, 7, was)+slot(t, 8, is))
	// What it has heard is in its Welcomes, and, when it looks, in its vote.
	ok(t, "Crash", town.Crash(0))
	ok(t, "Restart", town.Restart(0))
	deliverAll(t, town)
	keeps(t, "a Welcome of one epoch is taken once", town, 0, 3, api.Credential{Promised: 1, To: 2, Epoch: 1, News: 7})
	ok(t, "Tick", town.Tick(9))
	dropAll(t, town)
	states(t, "it looks", town, api.Looking, api.Looking, api.Looking)
	ok(t, "Crash", town.Crash(2))
	ok(t, "Restart", town.Restart(2))
	v := api.Vote{Epoch: 1, News: 12, Peer: 2}
	onItsWay(t, "its vote", town, notice(2, 0, 1, api.Looking, v), notice(2, 1, 1, api.Looking, v))
}

// TestHearAheadOfAWelcome: a Welcome tells the News that the leader has when it is sent.
func TestHearAheadOfAWelcome(t *testing.T) {
	town := newTown(t, newsOf(5, 7, 7))
	deliverAll(t, town)
	ok(t, "Tick", town.Tick(3))
	deliver(t, town, 0, 2)
	deliver(t, town, 2, 0)
	deliver(t, town, 0, 2)
	ok(t, "Hear", town.Hear(2))
	deliverAll(t, town)
	keeps(t, "sent ahead", town, 0, 3, api.Credential{Promised: 1, To: 2, Epoch: 1, News: 7})
	keeps(t, "sent behind", town, 1, 3, api.Credential{Promised: 1, To: 2, Epoch: 1, News: 8})
}

func TestHearIsRefused(t *testing.T) {
	town := newTown(t, newsOf(5, 7, 7))
	hear := func(what string, peer int, want api.Errno) {
		t.Helper()
		refused(t, what, town, want, func() api.Errno { return town.Hear(peer) })
	}
	for _, peer := range []int{-1, 3, 4, math.MaxInt, math.MinInt, math.MaxUint32 + 1} {
		hear("no such peer", peer, api.ErrArg)
	}
	for peer := range 3 {
		hear("Looking", peer, api.ErrState)
	}
	deliverAll(t, town)
	ok(t, "Tick", town.Tick(3))
	hear("Following", 0, api.ErrState)
	hear("at no epoch", 2, api.ErrState)
	deliver(t, town, 0, 2)
	hear("proposed", 2, api.ErrState)
	deliver(t, town, 2, 0)
	hear("not yet acked", 2, api.ErrState)
	deliver(t, town, 0, 2)
	ok(t, "established", town.Hear(2))
	deliverAll(t, town)
	hear("Following, of an epoch", 0, api.ErrState)
	hear("Following, of an epoch", 1, api.ErrState)
	ok(t, "Crash", town.Crash(2))
	hear("down", 2, api.ErrDown)
	ok(t, "Restart", town.Restart(2))
	hear("it was established once", 2, api.ErrState)
}

func TestHearNoMore(t *testing.T) {
	for _, news := range []int{999999999, 1000000000} {
		town := newTown(t, newsOf(news))
		full := func(want api.Errno) {
			t.Helper()
			refused(t, "Hear", town, want, func() api.Errno { return town.Hear(0) })
		}
		full(api.ErrState) // ahead of ErrFull
		ok(t, "Tick", town.Tick(3))
		if news == 999999999 {
			ok(t, "the last", town.Hear(0))
			keeps(t, "the last", town, 0, 4, api.Credential{Promised: 1, Epoch: 1, News: 1000000000})
		}
		full(api.ErrFull)
		full(api.ErrFull)
		states(t, "it leads on", town, api.Leading)
		ok(t, "Crash", town.Crash(0))
		full(api.ErrDown) // ahead of ErrState and ErrFull
	}
}
