package hustings

import (
	"testing"

	"hustings/api"
)

// follower is a town of three in which 0 has that credential, and follows 2.
func follower(t *testing.T, c api.Credential) *Town {
	t.Helper()
	x := townOf(t, c, api.Credential{}, api.Credential{})
	x.peers[0].follow(api.Vote{Epoch: 3, News: 9, Peer: 2})
	same(t, "it follows", x.way, join(0, 2, c.Promised))
	x.way = nil
	return x
}

func TestProposeToAFollower(t *testing.T) {
	const promises, acks, looks = 0, 1, 2
	for _, c := range []struct{ promised, to, epoch, does int }{
		{5, 2, 6, promises}, {5, 1, 6, promises}, {5, 0, 1000, promises}, {3, 0, 4, promises}, {999, 1, 1000, promises},
		{5, 2, 5, acks}, {1000, 2, 1000, acks}, {3, 2, 3, acks},
		{5, 1, 5, looks}, {5, 0, 5, looks}, {1000, 1, 1000, looks},
		{5, 2, 4, looks}, {5, 1, 4, looks}, {5, 2, 1, looks}, {5, 2, 3, looks}, {1000, 2, 999, looks},
	} {
		first := api.Credential{Promised: c.promised, To: c.to, Epoch: 3, News: 7}
		its := api.Vote{Epoch: 3, News: 7}
		x := follower(t, first)
		sent := x.come(propose(2, 0, c.epoch))
		switch c.does {
		case looks:
			same(t, "it looks", sent, toOthers(0, 3, 2, its)...)
			inState(t, "it looks", x, 0, api.Looking)
			keeps(t, "it looks", x, 0, 1, first)
		case acks:
			same(t, "it acks", sent, ack(0, 2, c.epoch, its))
			inState(t, "it acks", x, 0, api.Following)
			keeps(t, "it acks", x, 0, 1, first)
		case promises:
			promised := api.Credential{Promised: c.epoch, To: 2, Epoch: 3, News: 7}
			for range 2 { // the second time it has promised so already
				same(t, "it promises", sent, ack(0, 2, c.epoch, its))
				inState(t, "it promises", x, 0, api.Following)
				keeps(t, "it promises", x, 0, 2, promised)
				sent = x.come(propose(2, 0, c.epoch))
			}
		}
	}
}

// TestFollowsOneAlone: what comes of another one is nothing.
func TestFollowsOneAlone(t *testing.T) {
	first := api.Credential{Promised: 5, To: 1, Epoch: 3, News: 7}
	for _, m := range []api.Message{propose(1, 0, 6), propose(1, 0, 5), propose(1, 0, 4), welcome(1, 0, 5, 9), welcome(1, 0, 6, 9), ping(1, 0)} {
		x := follower(t, first)
		same(t, "of another one", x.come(m))
		inState(t, "of another one", x, 0, api.Following)
		keeps(t, "of another one", x, 0, 1, first)
	}
}

func TestWelcome(t *testing.T) {
	for _, c := range []struct {
		has   api.Credential
		epoch int
		takes bool
	}{
		{api.Credential{Promised: 5, To: 2, Epoch: 3, News: 7}, 5, true},
		{api.Credential{Promised: 5, To: 2, Epoch: 4, News: 100}, 5, true},
		{api.Credential{Promised: 1000, To: 2, News: 7}, 1000, true},
		{api.Credential{Promised: 5, To: 2, Epoch: 3, News: 7}, 4, false},
		{api.Credential{Promised: 5, To: 2, Epoch: 3, News: 7}, 6, false},
		{api.Credential{Promised: 5, To: 1, Epoch: 3, News: 7}, 5, false},
		{api.Credential{Promised: 5, To: 0, Epoch: 3, News: 7}, 5, false},
		{api.Credential{Promised: 5, To: 2, Epoch: 5, News: 7}, 5, false},
		{api.Credential{Promised: 5, To: 2, Epoch: 3, News: 7}, 3, false},
	} {
		x := follower(t, c.has)
		same(t, "Welcome", x.come(welcome(2, 0, c.epoch, 20)))
		inState(t, "Welcome", x, 0, api.Following)
		if !c.takes {
			keeps(t, "not welcome", x, 0, 1, c.has)
			continue
		}
		want := api.Credential{Promised: c.epoch, To: 2, Epoch: c.epoch, News: 20}
		keeps(t, "Welcome", x, 0, 2, want)
		for _, news := range []int{20, 21, 19} {
			same(t, "once more", x.come(welcome(2, 0, c.epoch, news)))
			keeps(t, "once more", x, 0, 2, want)
		}
		same(t, "it is in that epoch", x.come(propose(2, 0, c.epoch)), ack(0, 2, c.epoch, api.Vote{Epoch: c.epoch, News: 20}))
	}
}

func TestPing(t *testing.T) {
	x := follower(t, api.Credential{News: 7})
	for range 3 {
		same(t, "Ping", x.come(ping(2, 0)), pong(0, 2))
	}
	inState(t, "Ping", x, 0, api.Following)
	keeps(t, "Ping", x, 0, 1, api.Credential{News: 7})
}

// TestWhatAFollowerHears: which messages let its session last.
func TestWhatAFollowerHears(t *testing.T) {
	has := api.Credential{Promised: 5, To: 2, Epoch: 3, News: 7}
	was := api.Credential{Promised: 5, To: 2, Epoch: 5, News: 7}
	v := api.Vote{Epoch: 3, News: 9, Peer: 2}
	for _, c := range []struct {
		has   api.Credential
		m     api.Message
		hears bool
	}{
		{has, propose(2, 0, 6), true}, {has, propose(2, 0, 5), true}, {has, welcome(2, 0, 5, 9), true}, {has, ping(2, 0), true},
		{has, welcome(2, 0, 4, 9), false}, {has, welcome(2, 0, 6, 9), false}, {was, welcome(2, 0, 5, 9), false},
		{has, join(2, 0, 9), false}, {has, ack(2, 0, 5, v), false}, {has, pong(2, 0), false},
		{has, propose(1, 0, 6), false}, {has, welcome(1, 0, 5, 9), false}, {has, ping(1, 0), false},
		{has, notice(2, 0, 1, api.Looking, v), false}, {has, notice(2, 0, 1, api.Leading, v), false}, {has, notice(1, 0, 1, api.Following, v), false},
	} {
		x := follower(t, c.has)
		x.Tick(7)
		x.come(c.m)
		x.Tick(1)
		if !c.hears {
			inState(t, "not heard of", x, 0, api.Looking)
			continue
		}
		for range 6 {
			inState(t, "heard of", x, 0, api.Following)
			x.Tick(1)
		}
		inState(t, "seven ticks ago", x, 0, api.Following)
		x.Tick(1)
		inState(t, "eight ticks ago", x, 0, api.Looking)
	}
}
