package hustings

import (
	"testing"

	"hustings/api"
)

// leading lets a peer lead, since now.
func leading(x *Town, leader int) *Town {
	x.peers[leader].lead()
	return x
}

// atEpoch is a town of five in which 2 leads at an epoch that it has proposed to 0 and 1, and that nobody else has acked.
func atEpoch(t *testing.T, epoch int) *Town {
	t.Helper()
	x := leading(town(t, 5), 2)
	same(t, "two of five", x.come(join(0, 2, 0)))
	same(t, "three of five", x.come(join(1, 2, epoch-1)), propose(2, 0, epoch), propose(2, 1, epoch))
	keeps(t, "at an epoch", x, 2, 2, api.Credential{Promised: epoch, To: 2, News: 30})
	return x
}

// established is such a town in which 0 and 1 have acked.
func established(t *testing.T, epoch int) *Town {
	t.Helper()
	x := atEpoch(t, epoch)
	same(t, "two of five", x.come(ack(1, 2, epoch, vote(1))))
	happened(t, "two of five", x)
	same(t, "three of five", x.come(ack(0, 2, epoch, vote(0))), welcome(2, 0, epoch, 30), welcome(2, 1, epoch, 30))
	happened(t, "three of five", x, api.Event{Peer: 2, Epoch: epoch})
	keeps(t, "three of five", x, 2, 3, api.Credential{Promised: epoch, To: 2, Epoch: epoch, News: 30})
	return x
}

func TestJoinAtNoEpoch(t *testing.T) {
	for peers := 2; peers <= api.MaxPeers; peers++ {
		x := leading(town(t, peers), peers-1)
		first := api.Credential{News: 10 * peers}
		// The last one that is needed is 0: Proposes go in the order of the numbers all the same.
		for from := peers/2 - 1; from > 0; from-- {
			for range 2 { // one that joins twice is one
				same(t, "fewer than most", x.come(join(from, peers-1, from)))
				keeps(t, "fewer than most", x, peers-1, 1, first)
			}
		}
		var want []api.Message
		for to := range peers / 2 {
			want = append(want, propose(peers-1, to, peers/2))
		}
		same(t, "most", x.come(join(0, peers-1, 0)), want...)
		inState(t, "most", x, peers-1, api.Leading)
		keeps(t, "most", x, peers-1, 2, api.Credential{Promised: peers / 2, To: peers - 1, News: 10 * peers})
		happened(t, "nobody has acked", x)
	}
}

func TestWhichEpochIsProposed(t *testing.T) {
	for _, c := range []struct{ own, one, other, want int }{
		{0, 0, 0, 1}, {6, 7, 9, 10}, {6, 9, 7, 10}, {9, 6, 7, 10}, {9, 9, 9, 10}, {0, 0, 998, 999}, {999, 0, 0, 1000}, {0, 999, 0, 1000}, {0, 0, 999, 1000},
	} {
		x := leading(townOf(t, api.Credential{}, api.Credential{}, api.Credential{Promised: c.own, To: 1, News: 5}, api.Credential{}, api.Credential{}), 2)
		x.come(join(4, 2, c.one))
		same(t, "Propose", x.come(join(1, 2, c.other)), propose(2, 1, c.want), propose(2, 4, c.want))
		keeps(t, "Propose", x, 2, 2, api.Credential{Promised: c.want, To: 2, News: 5})
	}
}

func TestNoEpochIsLeft(t *testing.T) {
	for _, c := range []struct{ own, one, other int }{{1000, 0, 0}, {0, 1000, 0}, {0, 0, 1000}, {1000, 1000, 1000}} {
		own := api.Credential{Promised: c.own, News: 5}
		x := leading(townOf(t, own, api.Credential{}, api.Credential{}, api.Credential{}), 0)
		same(t, "fewer than most", x.come(join(1, 0, c.one)))
		inState(t, "fewer than most", x, 0, api.Leading)
		same(t, "most", x.come(join(2, 0, c.other)), toOthers(0, 4, 2, api.Vote{News: 5})...)
		inState(t, "most", x, 0, api.Looking)
		keeps(t, "nothing is written", x, 0, 1, own)
		happened(t, "no epoch is left", x)
	}
}

// TestJoinsAnew: what one has promised that joins twice is what it says last.
func TestJoinsAnew(t *testing.T) {
	for first, last := range map[int]int{3: 7, 7: 3} {
		x := leading(town(t, 5), 2)
		x.come(join(0, 2, first))
		x.come(join(0, 2, last))
		same(t, "Propose", x.come(join(1, 2, 1)), propose(2, 0, last+1), propose(2, 1, last+1))
	}
}

func TestJoinAtAnEpoch(t *testing.T) {
	for name, begin := range map[string]func(*testing.T, int) *Town{"not established": atEpoch, "established": established} {
		for _, c := range []struct{ epoch, promised int }{{5, 0}, {5, 4}, {5, 5}, {1000, 999}, {1000, 1000}} {
			for _, from := range []int{3, 0} { // one that is new, and one that has joined
				x := begin(t, c.epoch)
				before, _ := x.Disk(2)
				for range 2 {
					same(t, name, x.come(join(from, 2, c.promised)), propose(2, from, c.epoch))
				}
				inState(t, name, x, 2, api.Leading)
				if after, _ := x.Disk(2); after != before {
					t.Errorf("%s: a Join to one at an epoch changed its disk", name)
				}
			}
		}
		for _, promised := range []int{6, 7, 1000} {
			for _, from := range []int{3, 0} {
				x := begin(t, 5)
				own := x.peers[2].forItself()
				same(t, name, x.come(join(from, 2, promised)), toOthers(2, 5, 2, own)...)
				inState(t, name, x, 2, api.Looking)
			}
		}
	}
}

// TestAcksUntilMost: one that acks twice is one; Welcomes go to those alone that have acked, in the order of their numbers.
func TestAcksUntilMost(t *testing.T) {
	for peers := 2; peers <= api.MaxPeers; peers++ {
		leader := peers - 1
		x := leading(town(t, peers), leader)
		for from := range peers - 1 {
			x.come(join(from, leader, 0))
		}
		for from := peers/2 - 1; from > 0; from-- {
			for range 2 {
				same(t, "fewer than most", x.come(ack(from, leader, 1, vote(from))))
				happened(t, "fewer than most", x)
			}
		}
		keeps(t, "fewer than most", x, leader, 2, api.Credential{Promised: 1, To: leader, News: 10 * peers})
		var want []api.Message
		for to := range peers / 2 {
			want = append(want, welcome(leader, to, 1, 10*peers))
		}
		same(t, "most", x.come(ack(0, leader, 1, vote(0))), want...)
		happened(t, "most", x, api.Event{Peer: leader, Epoch: 1})
		keeps(t, "most", x, leader, 3, api.Credential{Promised: 1, To: leader, Epoch: 1, News: 10 * peers})
	}
}

func TestAckOfAnotherEpoch(t *testing.T) {
	for name, begin := range map[string]func(*testing.T, int) *Town{"not established": atEpoch, "established": established} {
		x := begin(t, 5)
		before, _ := x.Disk(2)
		events := x.Events()
		for _, epoch := range []int{4, 6, 1, 1000} {
			for from := range 5 {
				for _, v := range []api.Vote{vote(from), {Epoch: 9, News: 99, Peer: from}} {
					same(t, name, x.come(ack(from, 2, epoch, v)))
				}
			}
		}
		inState(t, name, x, 2, api.Leading)
		happened(t, name, x, events...)
		if after, _ := x.Disk(2); after != before {
			t.Errorf("%s: an Ack of another epoch changed the disk", name)
		}
	}
	x := leading(town(t, 5), 2)
	for _, epoch := range []int{1, 2, 1000} {
		same(t, "at no epoch", x.come(ack(0, 2, epoch, api.Vote{Epoch: 9, News: 99})))
		same(t, "at no epoch", x.come(ack(1, 2, epoch, vote(1))))
	}
	inState(t, "at no epoch", x, 2, api.Leading)
	happened(t, "at no epoch", x)
}

// TestAckOfOneThatIsAhead: held against what the leader's disk says, not against the epoch that it proposes.
func TestAckOfOneThatIsAhead(t *testing.T) {
	own := api.Credential{Promised: 6, Epoch: 3, News: 50}
	for _, c := range []struct {
		v     api.Vote
		ahead bool
	}{
		{api.Vote{Epoch: 4, News: 0}, true}, {api.Vote{Epoch: 4, News: 50}, true}, {api.Vote{Epoch: 7, News: 99}, true},
		{api.Vote{Epoch: 3, News: 51}, true}, {api.Vote{Epoch: 3, News: 1000000000}, true},
		{api.Vote{Epoch: 3, News: 50}, false}, {api.Vote{Epoch: 3, News: 49}, false}, {api.Vote{Epoch: 2, News: 51}, false}, {api.Vote{}, false},
	} {
		c.v.Peer = 2 // greater than the leader's number, which does not count
		x := leading(townOf(t, api.Credential{}, own, api.Credential{}), 1)
		same(t, "Propose", x.come(join(2, 1, 0)), propose(1, 2, 7))
		sent := x.come(ack(2, 1, 7, c.v))
		if c.ahead {
			same(t, "ahead", sent, toOthers(1, 3, 2, api.Vote{Epoch: 3, News: 50, Peer: 1})...)
			inState(t, "ahead", x, 1, api.Looking)
			happened(t, "ahead", x)
			keeps(t, "ahead", x, 1, 2, api.Credential{Promised: 7, To: 1, Epoch: 3, News: 50})
		} else {
			same(t, "not ahead", sent, welcome(1, 2, 7, 50))
			happened(t, "not ahead", x, api.Event{Peer: 1, Epoch: 7})
			keeps(t, "not ahead", x, 1, 3, api.Credential{Promised: 7, To: 1, Epoch: 7, News: 50})
		}
	}
}

// TestAckWhenEstablished: it is welcomed, alone, however far it is, with the News that the leader has by then.
func TestAckWhenEstablished(t *testing.T) {
	x := established(t, 5)
	for i, v := range []api.Vote{vote(3), {Epoch: 5, News: 30}, {Epoch: 5, News: 31}, {Epoch: 6}, {Epoch: 1000, News: 1000000000}} {
		for _, from := range []int{3, 4, 0} {
			v.Peer = from
			same(t, "Welcome", x.come(ack(from, 2, 5, v)), welcome(2, from, 5, 30+i))
		}
		if err := x.Hear(2); err != api.OK {
			t.Fatalf("Hear = %d", err)
		}
	}
	inState(t, "Welcome", x, 2, api.Leading)
	happened(t, "it was established once", x, api.Event{Peer: 2, Epoch: 5})
}

func TestPings(t *testing.T) {
	for lease, every := range map[int]int{4: 1, 7: 1, 8: 2, 11: 2, 12: 3, 99: 24, 100: 25} {
		x := town(t, 5)
		x.lease = lease
		x.Tick(5) // the pings hang on the time, not on when it began to lead
		leading(x, 2)
		x.come(join(4, 2, 0))
		for range 5 * lease {
			x.come(join(0, 2, 0))
			x.come(pong(4, 2))
			x.Tick(1)
			inState(t, "heard of", x, 2, api.Leading)
			if x.now%every == 0 {
				same(t, "Ping", x.way, ping(2, 0), ping(2, 4))
			} else {
				same(t, "no Ping", x.way)
			}
		}
	}
}

// TestHeardLately: a leader looks if it has not heard lately of most, and does not ping then.
func TestHeardLately(t *testing.T) {
	for _, c := range []struct {
		peers int
		at    []int // when it has heard of others
		leads bool
	}{
		{5, nil, false},
		{5, []int{7}, false},
		{5, []int{1, 1}, true},
		{5, []int{0, 1}, false},
		{5, []int{0, 0, 0, 0}, false},
		{5, []int{0, 0, 1, 1}, true},
		{4, []int{7}, false},
		{4, []int{1, 7}, true},
		{2, []int{1}, true},
		{2, []int{0}, false},
		{2, nil, false},
	} {
		leader := c.peers - 1
		x := leading(town(t, c.peers), leader)
		x.come(join(0, leader, 0))
		for now := range 8 {
			inState(t, "no Lease has gone by", x, leader, api.Leading)
			for peer, at := range c.at {
				if at == now {
					x.come(pong(peer, leader))
				}
			}
			x.way = nil
			x.Tick(1)
		}
		if c.leads {
			inState(t, "heard of most", x, leader, api.Leading)
			same(t, "heard of most", x.way, ping(leader, 0))
		} else {
			inState(t, "not heard of most", x, leader, api.Looking)
			same(t, "not heard of most", x.way, toOthers(leader, c.peers, 2, x.peers[leader].forItself())...)
		}
	}
}

// TestWhatALeaderHears: which messages, of two others, let it lead on.
func TestWhatALeaderHears(t *testing.T) {
	for _, c := range []struct {
		m     api.Message
		hears bool
	}{
		{join(0, 2, 0), true}, {join(0, 2, 1), true}, {ack(0, 2, 1, vote(0)), true}, {pong(0, 2), true},
		{ack(0, 2, 2, vote(0)), false}, {ack(0, 2, 1000, vote(0)), false}, {ping(0, 2), false}, {propose(0, 2, 2), false}, {welcome(0, 2, 1, 5), false},
		{notice(0, 2, 1, api.Looking, vote(0)), false}, {notice(0, 2, 1, api.Following, vote(2)), false}, {notice(0, 2, 1, api.Leading, vote(0)), false},
	} {
		for _, senders := range [][]int{{0, 1}, {3, 4}, {4, 0}, {0}, {0, 0}} {
			x := atEpoch(t, 1)
			x.Tick(7)
			for _, from := range senders {
				c.m.From = from
				x.come(c.m)
			}
			x.Tick(1)
			if !c.hears || senders[0] == senders[len(senders)-1] {
				inState(t, "not heard of two", x, 2, api.Looking)
				continue
			}
			for range 6 {
				inState(t, "heard of two", x, 2, api.Leading)
				x.Tick(1)
			}
			inState(t, "seven ticks ago", x, 2, api.Leading)
			x.Tick(1)
			inState(t, "eight ticks ago", x, 2, api.Looking)
		}
	}
}

// TestPongIsNoJoin: who has not joined is heard of, but nothing is proposed to it.
func TestPongIsNoJoin(t *testing.T) {
	x := leading(town(t, 5), 2)
	for _, from := range []int{0, 1, 3} {
		same(t, "Pong", x.come(pong(from, 2)))
	}
	same(t, "two of five", x.come(join(4, 2, 0)))
	same(t, "three of five", x.come(join(3, 2, 0)), propose(2, 3, 1), propose(2, 4, 1))
}

func TestPongSendsNothing(t *testing.T) {
	x := established(t, 5)
	before, _ := x.Disk(2)
	for from := range 5 {
		same(t, "Pong", x.come(pong(from, 2)))
	}
	if after, _ := x.Disk(2); after != before {
		t.Error("a Pong changed the disk")
	}
}

// TestLeadsAnew: of what it was when it led before, nothing is left but its promise.
func TestLeadsAnew(t *testing.T) {
	x := established(t, 5)
	x.come(join(3, 2, 0))
	x.Tick(8)
	inState(t, "eight ticks", x, 2, api.Looking)
	if err := x.Hear(2); err != api.ErrState {
		t.Errorf("Hear of one that leads no more = %d, want ErrState", err)
	}
	leading(x, 2)
	if err := x.Hear(2); err != api.ErrState {
		t.Errorf("Hear of one that is at no epoch = %d, want ErrState", err)
	}
	for _, from := range []int{0, 1, 3, 4} {
		same(t, "of the epoch before", x.come(ack(from, 2, 5, vote(from))))
		same(t, "of the epoch before", x.come(ack(from, 2, 5, api.Vote{Epoch: 9, News: 9, Peer: from})))
		same(t, "of the epoch to come", x.come(ack(from, 2, 6, vote(from))))
	}
	for range 4 {
		x.way = nil
		x.Tick(1)
		same(t, "nobody has joined", x.way)
	}
	same(t, "two of five", x.come(join(0, 2, 5)))
	same(t, "three of five", x.come(join(4, 2, 5)), propose(2, 0, 6), propose(2, 4, 6))
	same(t, "of the epoch before", x.come(ack(1, 2, 5, vote(1))))
	same(t, "two of five", x.come(ack(0, 2, 6, vote(0))))
	same(t, "three of five", x.come(ack(4, 2, 6, vote(0))), welcome(2, 0, 6, 30), welcome(2, 4, 6, 30))
	happened(t, "twice", x, api.Event{Peer: 2, Epoch: 5}, api.Event{Peer: 2, Epoch: 6})
}
