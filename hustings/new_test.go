package hustings_test

import (
	"math"
	"reflect"
	"testing"

	"hustings/api"
	"hustings/hustings"
)

// with is a configuration that may be, but for one change.
func with(change func(c *api.Config)) api.Config {
	c := newsOf(1, 2, 3)
	change(&c)
	return c
}

func TestNewTakesWhatMayBe(t *testing.T) {
	for name, change := range map[string]func(c *api.Config){
		"as it is":        func(c *api.Config) {},
		"one peer":        func(c *api.Config) { c.Peers = c.Peers[:1] },
		"seven peers":     func(c *api.Config) { c.Peers = make([]api.Credential, api.MaxPeers) },
		"least Wait":      func(c *api.Config) { c.Wait = 1 },
		"greatest Wait":   func(c *api.Config) { c.Wait = 20 },
		"least Lease":     func(c *api.Config) { c.Lease = 4 },
		"greatest Lease":  func(c *api.Config) { c.Lease = 100 },
		"least Net":       func(c *api.Config) { c.Net = 1 },
		"greatest Net":    func(c *api.Config) { c.Net = 1000 },
		"promised":        func(c *api.Config) { c.Peers[0] = api.Credential{Promised: 1000} },
		"an epoch":        func(c *api.Config) { c.Peers[1] = api.Credential{Promised: 1000, Epoch: 1000} },
		"another epoch":   func(c *api.Config) { c.Peers[2] = api.Credential{Promised: 5, Epoch: 5} },
		"last To":         func(c *api.Config) { c.Peers[0].To = 2 },
		"greatest News":   func(c *api.Config) { c.Peers[2].News = 1000000000 },
		"all of them":     func(c *api.Config) { c.Peers[2] = api.Credential{Promised: 1000, To: 2, Epoch: 1000, News: 1000000000} },
		"seventh peer To": func(c *api.Config) { c.Peers = make([]api.Credential, 7); c.Peers[6].To = 6 },
	} {
		c := with(change)
		if town, err := hustings.New(c); town == nil || err != api.OK {
			t.Errorf("%s: New = %v, %d, want a town", name, town, err)
		}
	}
}

// badCredentials are just outside, and far outside, of what may be of so many peers.
func badCredentials(peers int) []api.Credential {
	l := []api.Credential{
		{Promised: 1001}, {Promised: 1001, Epoch: 1001}, {Promised: 5, Epoch: 6}, {Epoch: 1},
		{Promised: 1000, Epoch: 1001}, {Promised: -1, Epoch: -1}, {To: peers}, {To: peers + 1}, {News: 1000000001},
	}
	for _, n := range []int{-1, math.MinInt, math.MaxInt, math.MinInt32, math.MaxUint32 + 1} {
		l = append(l, api.Credential{Promised: n}, api.Credential{Promised: 1000, Epoch: n}, api.Credential{To: n}, api.Credential{News: n})
	}
	return l
}

func TestNewRefusesWhatMayNotBe(t *testing.T) {
	refuse := func(c api.Config) {
		t.Helper()
		if town, err := hustings.New(c); town != nil || err != api.ErrArg {
			t.Errorf("New(%+v) = %v, %d, want ErrArg", c, town, err)
		}
	}
	refuse(api.Config{})
	for _, n := range []int{0, 8, 9, 100000} {
		refuse(with(func(c *api.Config) { c.Peers = make([]api.Credential, n) }))
	}
	for _, n := range []int{-1, 0, 21, math.MinInt, math.MaxInt} {
		refuse(with(func(c *api.Config) { c.Wait = n }))
	}
	for _, n := range []int{-4, 0, 3, 101, math.MinInt, math.MaxInt} {
		refuse(with(func(c *api.Config) { c.Lease = n }))
	}
	for _, n := range []int{-1, 0, 1001, math.MinInt, math.MaxInt} {
		refuse(with(func(c *api.Config) { c.Net = n }))
	}
	for peers := 1; peers <= api.MaxPeers; peers++ {
		for peer := range peers {
			for _, bad := range badCredentials(peers) {
				refuse(with(func(c *api.Config) { c.Peers = make([]api.Credential, peers); c.Peers[peer] = bad }))
			}
		}
	}
}

func TestNoticesAtFirst(t *testing.T) {
	c := newsOf(5, 7, 6, 0)
	c.Peers[2] = api.Credential{Promised: 9, To: 1, Epoch: 4, News: 6}
	town := newTown(t, c)
	votes := []api.Vote{{News: 5}, {News: 7, Peer: 1}, {Epoch: 4, News: 6, Peer: 2}, {Peer: 3}}
	var want []api.Message
	for from, v := range votes {
		for to := range votes {
			if from != to {
				want = append(want, notice(from, to, 1, api.Looking, v))
			}
		}
	}
	onItsWay(t, "at first", town, want...)
	states(t, "at first", town, api.Looking, api.Looking, api.Looking, api.Looking)
}

func TestNoRoomAtFirst(t *testing.T) {
	all := newTown(t, newsOf(5, 7, 9)).Messages()
	for net := 1; net <= len(all)+1; net++ {
		c := newsOf(5, 7, 9)
		c.Net = net
		onItsWay(t, "the first of them", newTown(t, c), all[:min(net, len(all))]...)
	}
}

func TestTheOnlyPeerTellsNobody(t *testing.T) {
	town := newTown(t, newsOf(5))
	onItsWay(t, "one peer", town)
	states(t, "one peer", town, api.Looking)
}

func TestDisksAtFirst(t *testing.T) {
	c := newsOf(5, 7, 9)
	c.Peers[1] = api.Credential{Promised: 1000, To: 2, Epoch: 999, News: 1000000000}
	town := newTown(t, c)
	for peer, first := range c.Peers {
		disk(t, "at first", town, peer, slot(t, 1, first)+emptySlot)
	}
}

// TestConfigurationIsTheCallers: it is neither written into nor kept, its spare room neither.
func TestConfigurationIsTheCallers(t *testing.T) {
	spare := api.Credential{Promised: 3, To: 1, Epoch: 2, News: 1}
	room := []api.Credential{{News: 5}, {News: 7}, spare, spare}
	before := append([]api.Credential(nil), room...)
	town := newTown(t, api.Config{Peers: room[:2], Wait: 3, Lease: 8, Net: 500})
	deliverAll(t, town)
	ok(t, "Tick", town.Tick(100))
	if !reflect.DeepEqual(room, before) {
		t.Fatalf("New or Tick wrote into %+v", room)
	}
	dropAll(t, town)
	room[0], room[1] = spare, spare
	ok(t, "Crash", town.Crash(0))
	ok(t, "Restart", town.Restart(0))
	onItsWay(t, "as it was handed in", town, notice(0, 1, 1, api.Looking, api.Vote{News: 5}))
	disk(t, "as it was handed in", town, 1, slot(t, 1, api.Credential{News: 7})+emptySlot)
}
