package hustings_test

import (
	"math/rand"
	"slices"
	"testing"

	"hustings/api"
	"hustings/hustings"
	"hustings/slots"
)

// watch looks at a town from call to call, and knows what must hold of every one, whatever is done to it (P11).
type watch struct {
	net         int
	last        sight
	established []bool
	armed       []bool
	leaders     map[int]int    // of epochs
	promises    map[[2]int]int // of a peer and an epoch: to whom
	torn        int            // how many peers went down in the midst of a write
}

func watching(town *hustings.Town, net int) *watch {
	w := &watch{net: net, last: see(town), leaders: map[int]int{}, promises: map[[2]int]int{}}
	w.established = make([]bool, len(w.last.states))
	w.armed = make([]bool, len(w.last.states))
	return w
}

// see is for what is to be seen behind a call.
func (w *watch) see(t testing.TB, c call, now sight) {
	t.Helper()
	w.seeMessages(t, now)
	w.seeEvents(t, now)
	for peer := range now.states {
		w.seeDisk(t, peer, now)
		w.seeArmed(t, c, peer, now)
	}
	w.last = now
}

func (w *watch) seeMessages(t testing.TB, now sight) {
	t.Helper()
	if len(now.messages) > w.net {
		t.Fatalf("%d messages are on their way, of %d", len(now.messages), w.net)
	}
	for _, m := range now.messages {
		if m.From == m.To || m.From >= len(now.states) || m.To >= len(now.states) || m.From < 0 || m.To < 0 {
			t.Fatalf("on its way: %+v", m)
		}
	}
}

func (w *watch) seeEvents(t testing.TB, now sight) {
	t.Helper()
	was := len(w.last.events)
	if len(now.events) < was || !slices.Equal(now.events[:was], w.last.events) {
		t.Fatalf("Events were %+v, are %+v", w.last.events, now.events)
	}
	for _, e := range now.events[was:] {
		if leader, twice := w.leaders[e.Epoch]; twice {
			t.Fatalf("%d and %d are established in the epoch %d", leader, e.Peer, e.Epoch)
		}
		w.leaders[e.Epoch] = e.Peer
		w.established[e.Peer] = true
	}
	for peer, state := range now.states {
		w.established[peer] = w.established[peer] && state == api.Leading
	}
}

func (w *watch) seeDisk(t testing.TB, peer int, now sight) {
	t.Helper()
	was := newest(w.last.disks[peer])
	is, _, at := slots.Newest(now.disks[peer])
	if at < 0 || is.Promised < was.Promised || is.Epoch < was.Epoch || is.Epoch > is.Promised {
		t.Fatalf("the disk of %d was %+v, is %+v", peer, was, is)
	}
	for _, c := range []api.Credential{was, is} {
		if to, before := w.promises[[2]int{peer, c.Promised}]; before && to != c.To {
			t.Fatalf("%d has promised %d to %d, then to %d", peer, c.Promised, to, c.To)
		}
		w.promises[[2]int{peer, c.Promised}] = c.To
	}
}

// seeArmed: only an armed one may go down without a Crash, and then it was in the midst of its first write.
func (w *watch) seeArmed(t testing.TB, c call, peer int, now sight) {
	t.Helper()
	goesDown := now.states[peer] == down && w.last.states[peer] != down
	if goesDown && c.kind != crashes {
		before, was, _ := slots.Newest(w.last.disks[peer])
		after, is, _ := slots.Newest(now.disks[peer])
		if !w.armed[peer] || is != was+1 && (is != was || after != before) {
			t.Fatalf("%d went down, armed: %v, from slot %d, %+v, to slot %d, %+v", peer, w.armed[peer], was, before, is, after)
		}
		w.torn++
	}
	if now.states[peer] == down {
		w.armed[peer] = false
	} else if c.kind == arms && c.number == peer && c.bytes >= 0 && c.bytes <= api.SlotSize {
		w.armed[peer] = true
	} else if w.armed[peer] && now.disks[peer] != w.last.disks[peer] {
		t.Fatalf("%d was armed, has written and is up", peer)
	}
}

// draw is a drawn configuration.
func draw(random *rand.Rand) api.Config {
	c := api.Config{Wait: 1 + random.Intn(4), Lease: 4 + random.Intn(16), Net: 1000}
	if random.Intn(4) == 0 {
		c.Net = 1 + random.Intn(60)
	}
	least := 0
	if random.Intn(6) == 0 {
		least = 994
	}
	peers := 1 + random.Intn(api.MaxPeers)
	for range peers {
		promised := least + random.Intn(4)
		first := api.Credential{Promised: promised, To: random.Intn(peers), Epoch: random.Intn(promised + 1), News: random.Intn(4)}
		if random.Intn(10) == 0 {
			first.News = api.MaxNews - random.Intn(3)
		}
		c.Peers = append(c.Peers, first)
	}
	return c
}

// drawCall is a drawn call, by how often each kind is to be: mostly one that may be.
func drawCall(random *rand.Rand, often []int, inOrder bool, s sight) call {
	all := 0
	for _, n := range often {
		all += n
	}
	c := call{}
	for n := random.Intn(all); n >= often[c.kind]; c.kind++ {
		n -= often[c.kind]
	}
	switch {
	case c.kind == ticks:
		c.number = 1 + random.Intn(3)
	case c.kind > ticks:
		c.number, c.bytes = random.Intn(len(s.states)), random.Intn(api.SlotSize+1)
	case len(s.messages) > 0 && !inOrder:
		c.number = random.Intn(len(s.messages))
	}
	return c
}

// TestWhateverFails: over many drawn scripts, what follows holds; and enough happens in them for that to mean something.
func TestWhateverFails(t *testing.T) {
	leaders, torn := 0, 0
	for seed := range 1500 {
		random := rand.New(rand.NewSource(int64(seed)))
		c := draw(random)
		town := newTown(t, c)
		w := watching(town, c.Net)
		often := make([]int, kinds)
		for kind, most := range []int{1, 20, 6, 60, 5, 8, 6, 5} {
			often[kind] = random.Intn(most)
		}
		often[delivers] = 200
		often[ticks] += 10
		often[restarts]++
		inOrder := random.Intn(2) == 0
		for range 300 {
			call := drawCall(random, often, inOrder && random.Intn(10) > 0, w.last)
			want := call.wanted(w.last, c.Net, w.established)
			if got := call.on(town); got != want {
				t.Fatalf("seed %d: %+v = %d, want %d", seed, call, got, want)
			}
			w.see(t, call, see(town))
		}
		leaders += len(w.leaders)
		torn += w.torn
	}
	if leaders < 1000 || torn < 500 {
		t.Errorf("only %d leaders were established, and %d writes torn", leaders, torn)
	}
}

// TestNothingFails: of peers with one Promised, the one with the best vote is established in the next epoch, and all others are in it.
func TestNothingFails(t *testing.T) {
	random := rand.New(rand.NewSource(2))
	for round := range 500 {
		c := api.Config{Wait: 1 + random.Intn(api.MaxWait), Lease: 4 + random.Intn(97), Net: api.MaxNet}
		promised := []int{0, 1, 999, random.Intn(1000)}[round%4]
		peers := 1 + random.Intn(api.MaxPeers)
		best := 0
		for peer := range peers {
			c.Peers = append(c.Peers, api.Credential{Promised: promised, To: random.Intn(peers), Epoch: random.Intn(min(promised, 2) + 1), News: random.Intn(3)})
			a, b := c.Peers[peer], c.Peers[best]
			if a.Epoch > b.Epoch || a.Epoch == b.Epoch && a.News >= b.News {
				best = peer
			}
		}
		town := established(t, c)
		events(t, "the best", town, api.Event{Peer: best, Epoch: promised + 1})
		want := api.Credential{Promised: promised + 1, To: best, Epoch: promised + 1, News: c.Peers[best].News}
		all := make([]int, peers)
		for peer := range peers {
			all[peer] = api.Following
			keeps(t, "all others too", town, peer, 3, want)
		}
		all[best] = api.Leading
		states(t, "the best", town, all...)
	}
}
