package hustings_test

import (
	"math"
	"math/rand"
	"testing"

	"hustings/api"
)

func TestTicksThatMayNotBe(t *testing.T) {
	town := newTown(t, newsOf(5, 7))
	deliverAll(t, town)
	for _, ticks := range []int{-1, 0, 1001, 1002, math.MinInt, math.MaxInt, math.MaxUint32 + 2, -1000} {
		refused(t, "Tick", town, api.ErrArg, func() api.Errno { return town.Tick(ticks) })
	}
	// No time has gone by.
	ok(t, "Tick(2)", town.Tick(2))
	states(t, "two ticks", town, api.Looking, api.Looking)
	ok(t, "Tick(1)", town.Tick(1))
	states(t, "three ticks", town, api.Following, api.Leading)
	ok(t, "Tick(1000)", town.Tick(1000))
}

// TestTicksGoByOneBehindTheOther: many at one time are no other than as many times one.
func TestTicksGoByOneBehindTheOther(t *testing.T) {
	for _, news := range [][]int{{5}, {5, 7}, {5, 7, 7}, {1, 2, 3, 4, 5, 6, 7}} {
		one, many := newTown(t, newsOf(news...)), newTown(t, newsOf(news...))
		deliverAll(t, one)
		deliverAll(t, many)
		for _, ticks := range []int{1, 2, 3, 5, 30, 1000} {
			ok(t, "Tick", many.Tick(ticks))
			for range ticks {
				ok(t, "Tick(1)", one.Tick(1))
			}
			if a, b := see(one), see(many); !a.same(b) {
				t.Fatalf("%d ticks one by one:\n%+v\nat one time:\n%+v", ticks, a, b)
			}
		}
	}
}

func TestWaitAndLease(t *testing.T) {
	for _, wait := range []int{1, 2, 20} {
		for _, lease := range []int{4, 5, 100} {
			c := newsOf(5, 7, 7)
			c.Wait, c.Lease = wait, lease
			c.Peers[0].Promised, c.Peers[1].Promised = 6, 8
			town := newTown(t, c)
			deliverAll(t, town)
			for range wait - 1 {
				ok(t, "Tick", town.Tick(1))
				states(t, "it waits", town, api.Looking, api.Looking, api.Looking)
			}
			onItsWay(t, "it waits", town)
			ok(t, "Tick", town.Tick(1))
			states(t, "Wait ticks", town, api.Following, api.Following, api.Leading)
			onItsWay(t, "Wait ticks", town, join(0, 2, 6), join(1, 2, 8))
			dropAll(t, town)
			for range lease - 1 {
				ok(t, "Tick", town.Tick(1))
				states(t, "within the lease", town, api.Following, api.Following, api.Leading)
			}
			onItsWay(t, "within the lease", town)
			ok(t, "Tick", town.Tick(1))
			states(t, "Lease ticks without a word", town, api.Looking, api.Looking, api.Looking)
			a, b, d := api.Vote{News: 5}, api.Vote{News: 7, Peer: 1}, api.Vote{News: 7, Peer: 2}
			onItsWay(t, "Lease ticks without a word", town,
				notice(0, 1, 2, api.Looking, a), notice(0, 2, 2, api.Looking, a),
				notice(1, 0, 2, api.Looking, b), notice(1, 2, 2, api.Looking, b),
				notice(2, 0, 2, api.Looking, d), notice(2, 1, 2, api.Looking, d))
			dropAll(t, town)
			ok(t, "Tick", town.Tick(1000))
			states(t, "nobody waits", town, api.Looking, api.Looking, api.Looking)
			onItsWay(t, "nobody waits", town)
		}
	}
}

// TestEachWaitsFromItsOwnTime: the waits of two begin at two times, and so do their sessions.
func TestEachWaitsFromItsOwnTime(t *testing.T) {
	town := newTown(t, newsOf(5, 7, 9))
	deliver(t, town, 2, 0) // 0 waits from 0 on
	ok(t, "Tick", town.Tick(2))
	deliver(t, town, 2, 1) // 1 from 2 on
	ok(t, "Tick", town.Tick(1))
	states(t, "at 3", town, api.Following, api.Looking, api.Looking)
	ok(t, "Tick", town.Tick(1))
	states(t, "at 4", town, api.Following, api.Looking, api.Looking)
	ok(t, "Tick", town.Tick(1))
	states(t, "at 5", town, api.Following, api.Following, api.Looking)
	ok(t, "Tick", town.Tick(5))
	states(t, "at 10", town, api.Following, api.Following, api.Looking)
	ok(t, "Tick", town.Tick(1))
	states(t, "at 11", town, api.Looking, api.Following, api.Looking)
	ok(t, "Tick", town.Tick(1))
	states(t, "at 12", town, api.Looking, api.Following, api.Looking)
	ok(t, "Tick", town.Tick(1))
	states(t, "at 13", town, api.Looking, api.Looking, api.Looking)
}

// TestAWaitBeginsAnew: it begins, is given up for a better vote, and begins for that one.
func TestAWaitBeginsAnew(t *testing.T) {
	town := newTown(t, newsOf(5, 7, 9))
	deliver(t, town, 1, 0)
	ok(t, "Tick", town.Tick(2))
	deliver(t, town, 2, 0)
	ok(t, "Tick", town.Tick(2))
	states(t, "it waits anew", town, api.Looking, api.Looking, api.Looking)
	dropAll(t, town)
	ok(t, "Tick", town.Tick(1))
	states(t, "it has waited", town, api.Following, api.Looking, api.Looking)
	onItsWay(t, "it follows 2", town, join(0, 2, 0))
}

// TestOneThatLeadsAlone: one that leads and hears of nobody looks, though those whom it had are down.
func TestOneThatLeadsAlone(t *testing.T) {
	town := elected(t, newsOf(5, 7, 7))
	ok(t, "Crash", town.Crash(0))
	ok(t, "Crash", town.Crash(1))
	ok(t, "Tick", town.Tick(7))
	states(t, "seven ticks", town, down, down, api.Leading)
	ok(t, "Tick", town.Tick(1))
	states(t, "eight ticks", town, down, down, api.Looking)
	d := api.Vote{News: 7, Peer: 2}
	onItsWay(t, "to those that are down too", town, notice(2, 0, 2, api.Looking, d), notice(2, 1, 2, api.Looking, d))
}

func TestTheOnlyPeerLeads(t *testing.T) {
	for _, promised := range []int{0, 7, 999} {
		first := api.Credential{Promised: promised, Epoch: promised / 2, News: 5}
		c := newsOf(0)
		c.Peers[0] = first
		town := newTown(t, c)
		ok(t, "Tick", town.Tick(2))
		states(t, "it waits from the time 0 on", town, api.Looking)
		disk(t, "it waits", town, 0, slot(t, 1, first)+emptySlot)
		ok(t, "Tick", town.Tick(1))
		states(t, "it has waited", town, api.Leading)
		second, third := first, first
		second.Promised = promised + 1
		third.Promised, third.Epoch = promised+1, promised+1
		disk(t, "it has waited", town, 0, slot(t, 3, third)+slot(t, 2, second))
		ok(t, "Tick", town.Tick(1000))
		states(t, "itself is most of one", town, api.Leading)
		disk(t, "it leads", town, 0, slot(t, 3, third)+slot(t, 2, second))
		onItsWay(t, "it leads", town)
	}
}

func TestTheOnlyPeerHasNoEpochLeft(t *testing.T) {
	c := newsOf(0)
	c.Peers[0] = api.Credential{Promised: 1000, Epoch: 998, News: 5}
	town := newTown(t, c)
	for range 50 {
		ok(t, "Tick", town.Tick(1))
		states(t, "it looks again and again", town, api.Looking)
	}
	disk(t, "nothing is written", town, 0, slot(t, 1, c.Peers[0])+emptySlot)
	onItsWay(t, "nothing is sent", town)
}

// TestTheBestLeads: when all is delivered and Wait ticks go by, the one with the best vote leads, and all others follow it.
func TestTheBestLeads(t *testing.T) {
	random := rand.New(rand.NewSource(1))
	for range 300 {
		c := api.Config{Wait: 1 + random.Intn(20), Lease: 4 + random.Intn(97), Net: 1000}
		best := 0
		for peer := range 2 + random.Intn(6) {
			promised := random.Intn(3)
			c.Peers = append(c.Peers, api.Credential{Promised: promised, Epoch: random.Intn(promised + 1), News: random.Intn(3)})
			a, b := c.Peers[peer], c.Peers[best]
			if a.Epoch > b.Epoch || a.Epoch == b.Epoch && a.News >= b.News {
				best = peer
			}
		}
		town := newTown(t, c)
		deliverAll(t, town)
		ok(t, "Tick", town.Tick(c.Wait))
		var want []int
		var joins []api.Message
		for peer, first := range c.Peers {
			want = append(want, api.Following)
			if peer != best {
				joins = append(joins, join(peer, best, first.Promised))
			}
		}
		want[best] = api.Leading
		states(t, "the best leads", town, want...)
		onItsWay(t, "the best leads", town, joins...)
	}
}
