package hustings_test

import (
	"math"
	"slices"
	"testing"

	"hustings/api"
	"hustings/hustings"
)

func TestDropTakesTheOneNamed(t *testing.T) {
	for _, i := range []int{0, 2, 5} {
		town := newTown(t, newsOf(5, 7, 9))
		want := slices.Delete(town.Messages(), i, i+1)
		before := see(town)
		ok(t, "Drop", town.Drop(i))
		onItsWay(t, "Drop", town, want...)
		before.messages = want
		if !before.same(see(town)) {
			t.Errorf("Drop(%d) did more than drop", i)
		}
	}
}

func TestCopyGoesBehindAllOthers(t *testing.T) {
	for _, i := range []int{0, 2, 5} {
		town := newTown(t, newsOf(5, 7, 9))
		want := town.Messages()
		want = append(want, want[i])
		ok(t, "Copy", town.Copy(i))
		onItsWay(t, "Copy", town, want...)
		ok(t, "Copy of the copy", town.Copy(6))
		onItsWay(t, "Copy of the copy", town, append(want, want[i])...)
		states(t, "Copy", town, api.Looking, api.Looking, api.Looking)
	}
}

func TestDeliverTakesTheOneNamed(t *testing.T) {
	a, b, c := api.Vote{News: 5}, api.Vote{News: 7, Peer: 1}, api.Vote{News: 9, Peer: 2}
	for _, x := range []struct {
		i    int
		come []api.Message
	}{
		{0, nil}, // to 1: the vote for 0 is not better
		{2, []api.Message{notice(0, 1, 1, api.Looking, b), notice(0, 2, 1, api.Looking, b)}},
		{3, nil}, // to 2
		{4, []api.Message{notice(0, 1, 1, api.Looking, c), notice(0, 2, 1, api.Looking, c)}},
		{5, []api.Message{notice(1, 0, 1, api.Looking, c), notice(1, 2, 1, api.Looking, c)}},
	} {
		town := newTown(t, newsOf(5, 7, 9))
		want := append(slices.Delete(town.Messages(), x.i, x.i+1), x.come...)
		ok(t, "Deliver", town.Deliver(x.i))
		onItsWay(t, "Deliver", town, want...)
	}
	if m := newTown(t, newsOf(5, 7, 9)).Messages()[0]; m != notice(0, 1, 1, api.Looking, a) {
		t.Errorf("the first message is %+v", m)
	}
}

func TestNoSuchMessage(t *testing.T) {
	for _, town := range []*hustings.Town{newTown(t, newsOf(5, 7)), newTown(t, newsOf(5))} {
		there := len(town.Messages())
		for _, i := range []int{there, there + 1, -1, 1000, math.MaxInt, math.MinInt, math.MaxUint32 + 1, math.MinInt32} {
			refused(t, "Deliver", town, api.ErrRange, func() api.Errno { return town.Deliver(i) })
			refused(t, "Drop", town, api.ErrRange, func() api.Errno { return town.Drop(i) })
			refused(t, "Copy", town, api.ErrRange, func() api.Errno { return town.Copy(i) })
		}
	}
}

func TestCopyWithoutRoom(t *testing.T) {
	for _, net := range []int{1, 2, 3, 1000} {
		c := newsOf(5, 7)
		c.Net = net
		town := newTown(t, c)
		for len(town.Messages()) < net {
			ok(t, "Copy", town.Copy(1))
		}
		for _, i := range []int{0, net - 1} {
			refused(t, "Copy", town, api.ErrFull, func() api.Errno { return town.Copy(i) })
		}
		// Where both apply, the one that is named first.
		for _, i := range []int{-1, net} {
			refused(t, "Copy", town, api.ErrRange, func() api.Errno { return town.Copy(i) })
		}
		ok(t, "Drop", town.Drop(0))
		if net > 1 {
			ok(t, "Copy into the room that there is again", town.Copy(0))
			refused(t, "Copy", town, api.ErrFull, func() api.Errno { return town.Copy(0) })
		}
	}
}

// TestDeliverGivesRoom: what is delivered is no more on its way when the peer answers.
func TestDeliverGivesRoom(t *testing.T) {
	c := newsOf(9, 1)
	c.Net = 1
	town := newTown(t, c)
	a := api.Vote{News: 9}
	onItsWay(t, "at first", town, notice(0, 1, 1, api.Looking, a))
	ok(t, "Deliver", town.Deliver(0))
	onItsWay(t, "1 votes for 0", town, notice(1, 0, 1, api.Looking, a))
}

// TestNoRoomForAll: of what a peer sends, the first ones have the room that there is.
func TestNoRoomForAll(t *testing.T) {
	c := newsOf(1, 9, 2, 3)
	c.Net = 12
	town := newTown(t, c)
	first := town.Messages()
	ok(t, "Drop", town.Drop(11))
	deliver(t, town, 1, 0)
	b := api.Vote{News: 9, Peer: 1}
	want := slices.Delete(first[:11], 3, 4)
	onItsWay(t, "two of three", town, append(want, notice(0, 1, 1, api.Looking, b), notice(0, 2, 1, api.Looking, b))...)
}

func TestOneThatIsDownHearsNothing(t *testing.T) {
	town := newTown(t, newsOf(5, 7))
	ok(t, "Crash", town.Crash(0))
	before := see(town)
	before.messages = before.messages[:1]
	ok(t, "Deliver", town.Deliver(1))
	if !before.same(see(town)) {
		t.Error("a message to a peer that is down did something")
	}
	ok(t, "Restart", town.Restart(0))
	dropAll(t, town)
	ok(t, "Tick", town.Tick(20))
	states(t, "it has not heard of 1", town, api.Looking, api.Looking)
	onItsWay(t, "it has not heard of 1", town)
}

// TestMessagesToWhoComesUp: what is on its way to a peer that goes down and comes up comes to it.
func TestMessagesToWhoComesUp(t *testing.T) {
	town := newTown(t, newsOf(5, 7))
	ok(t, "Crash", town.Crash(0))
	ok(t, "Restart", town.Restart(0))
	deliver(t, town, 1, 0)
	ok(t, "Tick", town.Tick(3))
	states(t, "it has heard of 1", town, api.Following, api.Looking)
}

func TestMessagesAreTheCallers(t *testing.T) {
	town := newTown(t, newsOf(5, 7, 9))
	want := see(town)
	for range 3 {
		l := town.Messages()
		clear(l)
		l = l[:cap(l)]
		for i := range l {
			l[i] = api.Message{Kind: 99, From: 99, To: 99}
		}
		if got := see(town); !want.same(got) {
			t.Fatalf("what was written over was the town's: %+v", got)
		}
	}
	kept := town.Messages()
	before := slices.Clone(kept)
	deliverAll(t, town)
	ok(t, "Tick", town.Tick(50))
	if !slices.Equal(kept, before) {
		t.Errorf("the town wrote into a list that it had handed out: %+v", kept)
	}
}
