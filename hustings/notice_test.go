package hustings

import (
	"testing"

	"hustings/api"
)

func TestBetter(t *testing.T) {
	l := []api.Vote{ // each is better than all ahead of it
		{Epoch: 0, News: 0, Peer: 0}, {Epoch: 0, News: 0, Peer: 6}, {Epoch: 0, News: 1, Peer: 0}, {Epoch: 0, News: 1000000000, Peer: 6},
		{Epoch: 1, News: 0, Peer: 0}, {Epoch: 1, News: 5, Peer: 3}, {Epoch: 1, News: 5, Peer: 4}, {Epoch: 1, News: 6, Peer: 2}, {Epoch: 1000, News: 0, Peer: 0},
	}
	for i, own := range l {
		for j, v := range l {
			if got := better(v, own); got != (j > i) {
				t.Errorf("better(%+v, %+v) = %v", v, own, got)
			}
		}
	}
}

// inRound is a town of five in which peer 2 is in that round, votes for itself and knows of a vote for 0.
func inRound(t *testing.T, round int) *Town {
	t.Helper()
	x := town(t, 5)
	if round > 1 {
		same(t, "a higher round", x.come(notice(0, 2, round, api.Looking, vote(0))), toOthers(2, 5, round, vote(2))...)
	}
	return x
}

func TestLowerRound(t *testing.T) {
	for _, round := range []int{3, 2, 1, 0} {
		x := inRound(t, 4)
		for _, v := range []int{4, 2, 0} {
			same(t, "its own to the sender", x.come(notice(3, 2, round, api.Looking, vote(v))), notice(2, 3, 4, api.Looking, vote(2)))
		}
	}
}

func TestLowerRoundIsNotCounted(t *testing.T) {
	x := inRound(t, 4)
	x.come(notice(0, 2, 4, api.Looking, vote(2)))
	x.come(notice(1, 2, 3, api.Looking, vote(2)))
	doesNotWait(t, "two of five in this round", x, 2)
	x.come(notice(1, 2, 4, api.Looking, vote(2)))
	x.Tick(2)
	x.come(notice(1, 2, 3, api.Looking, vote(4)))
	settlesIn(t, "a lower round ends no wait", x, 2, 1, api.Leading)
}

func TestHigherRound(t *testing.T) {
	for _, c := range []struct {
		has, comes, want int // for whom the votes are
	}{
		{2, 3, 3}, {2, 2, 2}, {2, 1, 2}, // held against one for itself ..
		{4, 3, 3}, {4, 4, 4}, {4, 2, 2}, {4, 1, 2}, // .. not against the one of the round before
	} {
		for _, round := range []int{2, 3, 1000} {
			x := town(t, 5)
			if c.has != 2 {
				same(t, "a better vote", x.come(notice(1, 2, 1, api.Looking, vote(c.has))), toOthers(2, 5, 1, vote(c.has))...)
			}
			sent := x.come(notice(0, 2, round, api.Looking, vote(c.comes)))
			same(t, "a higher round", sent, toOthers(2, 5, round, vote(c.want))...)
			// Now it is in that round.
			same(t, "the same again", x.come(notice(0, 2, round, api.Looking, vote(c.comes))))
			same(t, "a lower one", x.come(notice(0, 2, round-1, api.Looking, vote(4))), notice(2, 0, round, api.Looking, vote(c.want)))
		}
	}
}

func TestHigherRoundForgetsVotes(t *testing.T) {
	x := town(t, 5)
	x.come(notice(3, 2, 1, api.Looking, vote(3)))
	x.come(notice(0, 2, 2, api.Looking, vote(3)))
	doesNotWait(t, "3 has said nothing in round 2", x, 2)
	x.come(notice(3, 2, 2, api.Looking, vote(3)))
	settlesIn(t, "three of five", x, 2, 3, api.Following)
}

func TestHigherRoundEndsAWait(t *testing.T) {
	x := town(t, 5)
	x.come(notice(3, 2, 1, api.Looking, vote(3)))
	x.come(notice(4, 2, 1, api.Looking, vote(3)))
	x.Tick(2)
	x.come(notice(0, 2, 2, api.Looking, vote(3)))
	doesNotWait(t, "two of five in round 2", x, 2)

	x = town(t, 3)
	x.come(notice(1, 0, 1, api.Looking, vote(1)))
	x.Tick(2)
	x.come(notice(1, 0, 2, api.Looking, vote(1)))
	settlesIn(t, "it waits anew", x, 0, 3, api.Following)
}

func TestHigherRoundCounts(t *testing.T) {
	x := town(t, 3)
	x.Tick(1)
	x.come(notice(0, 2, 2, api.Looking, vote(2)))
	settlesIn(t, "0 votes as it does", x, 2, 3, api.Leading)
}

func TestOwnRound(t *testing.T) {
	own := api.Credential{Promised: 7, Epoch: 3, News: 50}
	for _, c := range []struct {
		v      api.Vote
		better bool
	}{
		{api.Vote{Epoch: 4, News: 0, Peer: 0}, true},
		{api.Vote{Epoch: 2, News: 99, Peer: 2}, false},
		{api.Vote{Epoch: 3, News: 51, Peer: 0}, true},
		{api.Vote{Epoch: 3, News: 49, Peer: 2}, false},
		{api.Vote{Epoch: 3, News: 50, Peer: 2}, true},
		{api.Vote{Epoch: 3, News: 50, Peer: 1}, false},
		{api.Vote{Epoch: 3, News: 50, Peer: 0}, false},
	} {
		x, _ := New(api.Config{Peers: []api.Credential{{}, own, {}}, Wait: 3, Lease: 8, Net: 100})
		sent := x.come(notice(0, 1, 1, api.Looking, c.v))
		if c.better {
			same(t, "a better vote", sent, toOthers(1, 3, 1, c.v)...)
			settlesIn(t, "two of three", x, 1, 3, api.Following)
			same(t, "Join", x.way, api.Message{Kind: api.Join, From: 1, To: c.v.Peer, Epoch: 7})
		} else {
			same(t, "no better vote", sent)
		}
	}
}

// TestOwnRoundOfAnotherVote: held against its vote, not against one for itself.
func TestOwnRoundOfAnotherVote(t *testing.T) {
	x := town(t, 5)
	x.come(notice(1, 0, 1, api.Looking, vote(3)))
	same(t, "better than one for itself", x.come(notice(2, 0, 1, api.Looking, vote(2))))
	same(t, "its vote", x.come(notice(2, 0, 1, api.Looking, vote(3))))
	same(t, "a better one", x.come(notice(2, 0, 1, api.Looking, vote(4))), toOthers(0, 5, 1, vote(4))...)
}

func TestVotesThatAreNotBetterCount(t *testing.T) {
	x := town(t, 3)
	x.Tick(4)
	same(t, "its own vote", x.come(notice(0, 2, 1, api.Looking, vote(2))))
	settlesIn(t, "two of three", x, 2, 3, api.Leading)
}

func TestWaitIsGivenUp(t *testing.T) {
	x := town(t, 3)
	x.come(notice(0, 2, 1, api.Looking, vote(2)))
	x.Tick(2)
	x.come(notice(0, 2, 1, api.Looking, vote(0)))
	doesNotWait(t, "0 votes otherwise", x, 2)
	x.come(notice(0, 2, 1, api.Looking, vote(2)))
	settlesIn(t, "it waits anew", x, 2, 3, api.Leading)
}

func TestABetterVoteEndsAWait(t *testing.T) {
	x := town(t, 3)
	x.come(notice(1, 0, 1, api.Looking, vote(1)))
	x.Tick(2)
	x.come(notice(2, 0, 1, api.Looking, vote(2)))
	settlesIn(t, "it waits anew", x, 0, 3, api.Following)

	x = town(t, 5)
	x.come(notice(1, 0, 1, api.Looking, vote(1)))
	x.come(notice(2, 0, 1, api.Looking, vote(1)))
	x.Tick(2)
	x.come(notice(4, 0, 1, api.Looking, vote(4)))
	doesNotWait(t, "two of five", x, 0)
}

func TestAWaitGoesOn(t *testing.T) {
	x := town(t, 5)
	x.come(notice(1, 4, 1, api.Looking, vote(4)))
	x.come(notice(2, 4, 1, api.Looking, vote(4)))
	x.Tick(2)
	x.come(notice(3, 4, 1, api.Looking, vote(4)))
	x.come(notice(1, 4, 1, api.Looking, vote(0)))
	x.come(notice(1, 4, 1, api.Looking, vote(4)))
	settlesIn(t, "from its beginning on", x, 4, 1, api.Leading)
}

func TestMostIsMoreThanHalf(t *testing.T) {
	for peers := 2; peers <= api.MaxPeers; peers++ {
		x := town(t, peers)
		best := peers - 1
		for others := 1; others <= peers/2; others++ {
			doesNotWait(t, "half or less", x, best)
			x.come(notice(others-1, best, 1, api.Looking, vote(best)))
		}
		settlesIn(t, "most", x, best, 3, api.Leading)
	}
}

func TestTheSameVoteInAll(t *testing.T) {
	for _, v := range []api.Vote{{News: 29, Peer: 2}, {News: 30, Peer: 1}, {News: 29, Peer: 1}} {
		x := town(t, 3)
		x.come(notice(0, 2, 1, api.Looking, v))
		doesNotWait(t, "another vote", x, 2)
	}
}

// word is a Notice of one that is settled.
type word struct {
	from, state, peer int
}

func TestSettledOnes(t *testing.T) {
	const f, l = api.Following, api.Leading
	for name, c := range map[string]struct {
		words   []word // to peer 4; only the last one may let it follow
		follows int    // -1: nobody
	}{
		"most, the leader last":              {[]word{{0, f, 1}, {2, f, 1}, {1, l, 1}}, 1},
		"most, the leader first":             {[]word{{1, l, 1}, {2, f, 1}, {0, f, 1}}, 1},
		"most, the leader in the midst":      {[]word{{3, f, 0}, {0, l, 0}, {2, f, 0}}, 0},
		"two":                                {[]word{{1, l, 1}, {2, f, 1}}, -1},
		"one twice":                          {[]word{{1, l, 1}, {2, f, 1}, {2, f, 1}, {1, l, 1}}, -1},
		"the leader says nothing":            {[]word{{0, f, 1}, {2, f, 1}, {3, f, 1}}, -1},
		"the leader at last":                 {[]word{{0, f, 1}, {2, f, 1}, {3, f, 1}, {1, l, 1}}, 1},
		"the leader follows":                 {[]word{{0, f, 1}, {2, f, 1}, {1, f, 1}, {3, f, 1}}, -1},
		"the leader leads again":             {[]word{{0, f, 1}, {1, f, 1}, {2, f, 1}, {1, l, 1}}, 1},
		"the leader votes for another":       {[]word{{0, f, 1}, {2, f, 1}, {3, f, 1}, {1, l, 3}}, -1},
		"the leader votes for another first": {[]word{{1, l, 3}, {0, f, 1}, {2, f, 1}, {3, f, 1}}, -1},
		"the leader leads no more":           {[]word{{1, l, 1}, {1, f, 1}, {0, f, 1}, {2, f, 1}}, -1},
		"another leads":                      {[]word{{0, f, 1}, {2, f, 1}, {3, l, 3}, {3, f, 1}}, -1},
		"one votes otherwise by now":         {[]word{{1, l, 1}, {2, f, 1}, {2, f, 3}, {0, f, 1}}, -1},
		"one votes so again":                 {[]word{{1, l, 1}, {2, f, 1}, {2, f, 3}, {0, f, 1}, {2, f, 1}}, 1},
		"two and two":                        {[]word{{1, l, 1}, {2, f, 1}, {3, l, 3}, {0, f, 3}}, -1},
		"more for one, the leader of others": {[]word{{3, l, 3}, {0, f, 1}, {1, f, 1}, {2, f, 1}}, -1},
		"for the one that looks":             {[]word{{0, f, 4}, {1, f, 4}, {2, f, 4}, {3, l, 4}}, -1},
	} {
		x := town(t, 5)
		for i, w := range c.words {
			inState(t, name, x, 4, api.Looking)
			sent := x.come(notice(w.from, 4, 3*i, w.state, vote(w.peer))) // of whatever round
			if i == len(c.words)-1 && c.follows >= 0 {
				same(t, name, sent, api.Message{Kind: api.Join, From: 4, To: c.follows})
			} else {
				same(t, name, sent)
			}
		}
		if c.follows >= 0 {
			inState(t, name, x, 4, api.Following)
			same(t, name, x.come(notice(3, 4, 1, api.Looking, vote(3))), notice(4, 3, 1, api.Following, vote(c.follows)))
			x.Tick(7)
			inState(t, name, x, 4, api.Following)
			x.Tick(1)
		}
		doesNotWait(t, name, x, 4)
	}
}

// TestTwoPeersAreNeverSettledSo: of two, one other is not most.
func TestTwoPeersAreNeverSettledSo(t *testing.T) {
	x := town(t, 2)
	same(t, "one of two", x.come(notice(1, 0, 1, api.Leading, vote(1))))
	doesNotWait(t, "one of two", x, 0)
}

func TestFollowsByTheLeadersVote(t *testing.T) {
	x := town(t, 3)
	old, its := api.Vote{Epoch: 1, News: 5, Peer: 1}, api.Vote{Epoch: 2, News: 3, Peer: 1}
	x.come(notice(1, 0, 6, api.Leading, its))
	x.come(notice(2, 0, 6, api.Following, old))
	same(t, "its Notice", x.come(notice(2, 0, 9, api.Looking, vote(2))), notice(0, 2, 1, api.Following, its))
}

// TestSettledOnesAreNotCounted: a Notice of one that is settled is no vote of the round, and changes no vote and no wait.
func TestSettledOnesAreNotCounted(t *testing.T) {
	x := town(t, 3)
	same(t, "Following", x.come(notice(1, 0, 1, api.Following, vote(0))))
	same(t, "better", x.come(notice(2, 0, 1, api.Following, vote(1))))
	doesNotWait(t, "Following", x, 0)
	same(t, "its vote", x.come(notice(1, 0, 0, api.Looking, vote(1))), notice(0, 1, 1, api.Looking, vote(0)))

	x.come(notice(1, 0, 1, api.Looking, vote(1)))
	x.Tick(2)
	x.come(notice(1, 0, 1, api.Following, vote(2)))
	settlesIn(t, "a wait goes on", x, 0, 1, api.Following)
}

// TestSettledOnesAreKept: neither a higher round nor a Notice of a lower one, nor what they say when they look, lets a peer forget them.
func TestSettledOnesAreKept(t *testing.T) {
	x := town(t, 5)
	x.come(notice(1, 4, 1, api.Leading, vote(1)))
	x.come(notice(2, 4, 1, api.Following, vote(1)))
	x.come(notice(0, 4, 5, api.Looking, vote(0)))
	x.come(notice(2, 4, 5, api.Looking, vote(2)))
	x.come(notice(0, 4, 2, api.Looking, vote(0)))
	inState(t, "two", x, 4, api.Looking)
	x.come(notice(3, 4, 1, api.Following, vote(1)))
	inState(t, "three", x, 4, api.Following)
}

func TestSettledOnesAreForgotten(t *testing.T) {
	x := town(t, 5)
	x.come(notice(1, 4, 1, api.Leading, vote(1)))
	x.come(notice(2, 4, 1, api.Following, vote(1)))
	x.come(notice(3, 4, 1, api.Following, vote(1)))
	x.Tick(8)
	inState(t, "it looks anew", x, 4, api.Looking)
	same(t, "it looks anew", x.way, toOthers(4, 5, 2, vote(4))...)
	x.come(notice(0, 4, 1, api.Following, vote(1)))
	inState(t, "one", x, 4, api.Looking)
	x.come(notice(2, 4, 1, api.Following, vote(1)))
	inState(t, "two", x, 4, api.Looking)
	x.come(notice(1, 4, 1, api.Leading, vote(1)))
	inState(t, "three", x, 4, api.Following)
}

// TestVotesAreForgotten: who looks anew knows of no votes, and does not wait.
func TestVotesAreForgotten(t *testing.T) {
	x := town(t, 3)
	x.come(notice(0, 2, 1, api.Looking, vote(2)))
	settlesIn(t, "elected", x, 2, 3, api.Leading)
	x.Tick(8)
	doesNotWait(t, "round 2", x, 2)
}

// settled is a town in which 0 follows 2, 2 leads, and 1 looks.
func settled(t *testing.T) *Town {
	t.Helper()
	x := town(t, 3)
	x.come(notice(2, 0, 4, api.Looking, vote(2)))
	x.come(notice(0, 2, 4, api.Looking, vote(2)))
	x.Tick(3)
	inState(t, "settled", x, 0, api.Following)
	inState(t, "settled", x, 2, api.Leading)
	inState(t, "settled", x, 1, api.Looking)
	x.way = nil
	return x
}

func TestLookingToSettled(t *testing.T) {
	x := settled(t)
	for _, round := range []int{0, 1, 3, 4, 5, 100} {
		for _, v := range []api.Vote{vote(1), vote(2), {Epoch: 9, News: 99, Peer: 1}} {
			same(t, "Following", x.come(notice(1, 0, round, api.Looking, v)), notice(0, 1, 4, api.Following, vote(2)))
			same(t, "Leading", x.come(notice(1, 2, round, api.Looking, v)), notice(2, 1, 4, api.Leading, vote(2)))
			same(t, "Leading, of 0", x.come(notice(0, 2, round, api.Looking, v)), notice(2, 0, 4, api.Leading, vote(2)))
		}
	}
	inState(t, "nothing else", x, 0, api.Following)
	inState(t, "nothing else", x, 2, api.Leading)
}

func TestSettledToSettled(t *testing.T) {
	x := settled(t)
	for _, round := range []int{0, 4, 9} {
		for _, state := range []int{api.Following, api.Leading} {
			for _, v := range []api.Vote{vote(0), vote(1), {Epoch: 9, News: 99, Peer: 1}} {
				for _, m := range []api.Message{notice(1, 0, round, state, v), notice(2, 0, round, state, v), notice(0, 2, round, state, v), notice(1, 2, round, state, v)} {
					same(t, "settled", x.come(m))
				}
			}
		}
	}
	inState(t, "nothing", x, 0, api.Following)
	inState(t, "nothing", x, 2, api.Leading)
}

// TestNoticesAreNoSession: a Notice does not let a session last longer.
func TestNoticesAreNoSession(t *testing.T) {
	x := settled(t)
	x.Tick(7)
	for _, state := range []int{api.Looking, api.Following, api.Leading} {
		x.come(notice(2, 0, 4, state, vote(2)))
		x.come(notice(0, 2, 4, state, vote(2)))
		x.come(notice(1, 2, 4, state, vote(2)))
	}
	inState(t, "seven ticks", x, 0, api.Following)
	inState(t, "seven ticks", x, 2, api.Leading)
	x.Tick(1)
	inState(t, "eight ticks", x, 0, api.Looking)
	inState(t, "eight ticks", x, 2, api.Looking)
}

// TestKindsOfOtherStates: what a state does not name is nothing to it.
func TestKindsOfOtherStates(t *testing.T) {
	for peer, kinds := range map[int][]int{
		1: {api.Join, api.Propose, api.Ack, api.Welcome, api.Ping, api.Pong}, // Looking
		0: {api.Join, api.Ack, api.Pong},                                     // Following
		2: {api.Propose, api.Welcome, api.Ping},                              // Leading
	} {
		for _, kind := range append(kinds, 0, -1, 8) {
			for from := range 3 {
				x := settled(t)
				before, _ := x.Disk(peer)
				state, _ := x.State(peer)
				m := api.Message{Kind: kind, From: from, To: peer, Round: 9, Vote: vote(2), Epoch: 1, News: 5}
				same(t, "of another state", x.come(m))
				inState(t, "of another state", x, peer, state)
				if after, _ := x.Disk(peer); after != before {
					t.Errorf("kind %d in state %d changed the disk", kind, state)
				}
			}
		}
	}
}
