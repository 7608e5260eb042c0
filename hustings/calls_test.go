package hustings_test

import (
	"math"
	"testing"

	"hustings/api"
	"hustings/hustings"
)

// script makes calls out of bytes.
type script struct{ bytes []byte }

func (s *script) next() int {
	if len(s.bytes) == 0 {
		return 0
	}
	b := s.bytes[0]
	s.bytes = s.bytes[1:]
	return int(b)
}

func (s *script) config() api.Config {
	c := api.Config{Wait: 1 + s.next()%5, Lease: 4 + s.next()%9, Net: 1 + s.next()}
	peers := 1 + s.next()%api.MaxPeers
	for range peers {
		promised := s.next() % 4
		c.Peers = append(c.Peers, api.Credential{Promised: promised, To: s.next() % peers, Epoch: s.next() % (promised + 1), News: s.next() % 4})
	}
	return c
}

// number is mostly a small one, at or around the bounds.
func (s *script) number() int {
	switch n := s.next(); n {
	case 255:
		return math.MaxInt
	case 254:
		return math.MinInt
	default:
		return n/2 - 2
	}
}

// The calls that may change something.
const (
	delivers = iota
	drops
	copies
	ticks
	crashes
	restarts
	arms
	hears
	kinds // how many there are
)

type call struct{ kind, number, bytes int }

func (s *script) calls() []call {
	var l []call
	for len(s.bytes) > 0 {
		c := call{kind: s.next() % kinds, number: s.number()}
		if c.kind == arms {
			c.bytes = s.number()
		}
		l = append(l, c)
	}
	return l
}

func (c call) on(town *hustings.Town) api.Errno {
	switch c.kind {
	case delivers:
		return town.Deliver(c.number)
	case drops:
		return town.Drop(c.number)
	case copies:
		return town.Copy(c.number)
	case ticks:
		return town.Tick(c.number)
	case crashes:
		return town.Crash(c.number)
	case restarts:
		return town.Restart(c.number)
	case arms:
		return town.Arm(c.number, c.bytes)
	default:
		return town.Hear(c.number)
	}
}

// wanted is what the call should answer, by what is to be seen ahead of it, and who is established.
func (c call) wanted(s sight, net int, established []bool) api.Errno {
	switch c.kind {
	case delivers, drops, copies:
		if c.number < 0 || c.number >= len(s.messages) {
			return api.ErrRange
		}
		if c.kind == copies && len(s.messages) == net {
			return api.ErrFull
		}
		return api.OK
	case ticks:
		if c.number < 1 || c.number > api.MaxTicks {
			return api.ErrArg
		}
		return api.OK
	}
	switch {
	case c.number < 0 || c.number >= len(s.states), c.kind == arms && (c.bytes < 0 || c.bytes > 28):
		return api.ErrArg
	case (s.states[c.number] == down) != (c.kind == restarts):
		return api.ErrDown
	case c.kind == hears && !established[c.number]:
		return api.ErrState
	case c.kind == hears && newest(s.disks[c.number]).News == api.MaxNews:
		return api.ErrFull
	}
	return api.OK
}

// FuzzCalls: any calls end and answer what they should; a refused one changes nothing; and a town does the same again, whatever another one does in between.
func FuzzCalls(f *testing.F) {
	f.Add([]byte{})
	f.Add([]byte{2, 4, 100, 2, 0, 0, 0, 1, 0, 0, 0, 2, 0, 0, 0, 3, 0, 4, 0, 4, 0, 4, 0, 4, 3, 12, 3, 40, 4, 4, 5, 4, 255, 255, 254, 254})
	f.Add([]byte{0, 0, 100, 0, 0, 0, 0, 1, 3, 6, 7, 4, 6, 4, 20, 7, 4, 7, 4, 5, 4, 6, 4, 2, 6, 4, 62, 6, 4, 60, 3, 8, 5, 4, 3, 8, 7, 4}) // one peer
	f.Add([]byte{0, 0, 3, 6, 1, 2, 3, 4, 5, 6, 7, 8, 9, 1, 2, 3, 4, 5, 6, 7, 8, 9, 0, 1, 2, 3, 4, 5, 6, 7, 8, 9, 2, 8, 2, 9, 0, 6, 3, 10, 3, 200})
	for seed := range 40 {
		var l []byte
		n := uint32(seed)
		for range 600 {
			n = n*1664525 + 1013904223
			l = append(l, byte(n>>24))
		}
		f.Add(l)
	}
	f.Fuzz(func(t *testing.T, bytes []byte) {
		s := &script{bytes[:min(len(bytes), 2000)]}
		c := s.config()
		calls := s.calls()
		one, two, other := newTown(t, c), newTown(t, c), newTown(t, newsOf(3, 2, 1))
		w := watching(one, c.Net)
		for _, call := range calls {
			before := see(one)
			got := call.on(one)
			if want := call.wanted(before, c.Net, w.established); got != want {
				t.Fatalf("%+v = %d, want %d", call, got, want)
			}
			after := see(one)
			if got != api.OK && !before.same(after) {
				t.Fatalf("%+v was refused, and changed\n%+v to\n%+v", call, before, after)
			}
			w.see(t, call, after)
			call.on(other)
			other.Tick(1)
			if again := call.on(two); again != got || !after.same(see(two)) {
				t.Fatalf("%+v again = %d, was %d", call, again, got)
			}
		}
	})
}

// TestTwoTownsInTurns: each goes on as it would alone.
func TestTwoTownsInTurns(t *testing.T) {
	c := newsOf(5, 7, 9)
	alone, one, two := newTown(t, c), newTown(t, c), newTown(t, c)
	for range 40 {
		for _, town := range []*hustings.Town{alone, one} {
			if len(town.Messages()) > 0 {
				ok(t, "Deliver", town.Deliver(0))
			}
			ok(t, "Tick", town.Tick(1))
		}
		two.Drop(0)
		two.Crash(1)
		two.Tick(2)
		two.Restart(1)
		two.Arm(2, 5)
		two.Hear(2)
		clear(two.Messages())
		clear(two.Events())
		if a, b := see(alone), see(one); !a.same(b) {
			t.Fatalf("alone:\n%+v\nin turns:\n%+v", a, b)
		}
	}
}

// TestLooksChangeNothing: what only tells can be asked as often as one likes.
func TestLooksChangeNothing(t *testing.T) {
	town := elected(t, newsOf(5, 7, 9))
	before := see(town)
	for range 3 {
		if !before.same(see(town)) {
			t.Fatal("telling has changed something")
		}
	}
	for range 100 {
		town.Disk(1)
		town.State(1)
	}
	ok(t, "Tick", town.Tick(7))
	states(t, "no time has gone by", town, api.Following, api.Following, api.Leading)
}
