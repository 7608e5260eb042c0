package hustings_test

import (
	"reflect"
	"testing"

	"hustings/api"
	"hustings/hustings"
	"hustings/slots"
)

const down = -1 // stands for a state, where a peer has none

// newsOf is a configuration of peers that have heard so much.
func newsOf(news ...int) api.Config {
	c := api.Config{Wait: 3, Lease: 8, Net: 500}
	for _, n := range news {
		c.Peers = append(c.Peers, api.Credential{News: n})
	}
	return c
}

func newTown(t testing.TB, c api.Config) *hustings.Town {
	t.Helper()
	town, err := hustings.New(c)
	if town == nil || err != api.OK {
		t.Fatalf("New(%+v) = %v, %d", c, town, err)
	}
	return town
}

func answer(t testing.TB, what string, got, want api.Errno) {
	t.Helper()
	if got != want {
		t.Fatalf("%s = %d, want %d", what, got, want)
	}
}

func ok(t testing.TB, what string, got api.Errno) {
	t.Helper()
	answer(t, what, got, api.OK)
}

func notice(from, to, round, state int, v api.Vote) api.Message {
	return api.Message{Kind: api.Notice, From: from, To: to, Round: round, State: state, Vote: v}
}

func join(from, to, promised int) api.Message {
	return api.Message{Kind: api.Join, From: from, To: to, Epoch: promised}
}

func propose(from, to, epoch int) api.Message {
	return api.Message{Kind: api.Propose, From: from, To: to, Epoch: epoch}
}

func ack(from, to, epoch int, its api.Vote) api.Message {
	return api.Message{Kind: api.Ack, From: from, To: to, Epoch: epoch, Vote: its}
}

func welcome(from, to, epoch, news int) api.Message {
	return api.Message{Kind: api.Welcome, From: from, To: to, Epoch: epoch, News: news}
}

func ping(from, to int) api.Message { return api.Message{Kind: api.Ping, From: from, To: to} }

func pong(from, to int) api.Message { return api.Message{Kind: api.Pong, From: from, To: to} }

func onItsWay(t testing.TB, what string, town *hustings.Town, want ...api.Message) {
	t.Helper()
	got := town.Messages()
	if len(got) == 0 && len(want) == 0 {
		return
	}
	if !reflect.DeepEqual(got, want) {
		t.Fatalf("%s: on its way:\n%+v, want\n%+v", what, got, want)
	}
}

func states(t testing.TB, what string, town *hustings.Town, want ...int) {
	t.Helper()
	for peer, w := range want {
		got, err := town.State(peer)
		if w == down && (got != 0 || err != api.ErrDown) || w != down && (got != w || err != api.OK) {
			t.Fatalf("%s: State(%d) = %d, %d, want %d", what, peer, got, err, w)
		}
	}
	if got, err := town.State(len(want)); got != 0 || err != api.ErrArg {
		t.Fatalf("%s: State(%d) = %d, %d, want ErrArg", what, len(want), got, err)
	}
}

// deliver delivers the message that is the first on its way from one to another.
func deliver(t testing.TB, town *hustings.Town, from, to int) {
	t.Helper()
	for i, m := range town.Messages() {
		if m.From == from && m.To == to {
			ok(t, "Deliver", town.Deliver(i))
			return
		}
	}
	t.Fatalf("nothing is on its way from %d to %d", from, to)
}

// deliverAll delivers all that is on its way, and what comes of it.
func deliverAll(t testing.TB, town *hustings.Town) {
	t.Helper()
	for range 100000 {
		if len(town.Messages()) == 0 {
			return
		}
		ok(t, "Deliver(0)", town.Deliver(0))
	}
	t.Fatal("messages without end")
}

func dropAll(t testing.TB, town *hustings.Town) {
	t.Helper()
	for len(town.Messages()) > 0 {
		ok(t, "Drop(0)", town.Drop(0))
	}
}

// elected is a town in which all is settled, and nothing on its way.
func elected(t testing.TB, c api.Config) *hustings.Town {
	t.Helper()
	town := newTown(t, c)
	deliverAll(t, town)
	ok(t, "Tick(Wait)", town.Tick(c.Wait))
	dropAll(t, town)
	return town
}

// established is a town in which all is delivered that comes of an election.
func established(t testing.TB, c api.Config) *hustings.Town {
	t.Helper()
	town := newTown(t, c)
	deliverAll(t, town)
	ok(t, "Tick(Wait)", town.Tick(c.Wait))
	deliverAll(t, town)
	return town
}

func events(t testing.TB, what string, town *hustings.Town, want ...api.Event) {
	t.Helper()
	got := town.Events()
	if (len(got) > 0 || len(want) > 0) && !reflect.DeepEqual(got, want) {
		t.Fatalf("%s: Events = %+v, want %+v", what, got, want)
	}
}

// keeps checks the newest right slot of a peer's disk.
func keeps(t testing.TB, what string, town *hustings.Town, peer, number int, want api.Credential) {
	t.Helper()
	d, err := town.Disk(peer)
	c, n, _ := slots.Newest(d)
	if c != want || n != number || err != api.OK {
		t.Fatalf("%s: %d keeps %+v, number %d, %d, want %+v, number %d", what, peer, c, n, err, want, number)
	}
}

// newest is what the newest right slot of a disk says.
func newest(disk string) api.Credential {
	c, _, _ := slots.Newest(disk)
	return c
}

// slot is a slot as it should be.
func slot(t testing.TB, number int, c api.Credential) string {
	t.Helper()
	s, err := slots.Encode(number, c)
	ok(t, "Encode", err)
	return s
}

var emptySlot = string(make([]byte, api.SlotSize))

func disk(t testing.TB, what string, town *hustings.Town, peer int, want string) {
	t.Helper()
	if got, err := town.Disk(peer); got != want || err != api.OK {
		t.Fatalf("%s: Disk(%d) = %x, %d, want %x", what, peer, got, err, want)
	}
}

// sight is all that can be seen of a town.
type sight struct {
	messages []api.Message
	events   []api.Event
	states   []int
	disks    []string
}

func see(town *hustings.Town) sight {
	s := sight{messages: town.Messages(), events: town.Events()}
	for peer := 0; ; peer++ {
		d, err := town.Disk(peer)
		if err != api.OK {
			return s
		}
		s.disks = append(s.disks, d)
		state, err := town.State(peer)
		if err != api.OK {
			state = down
		}
		s.states = append(s.states, state)
	}
}

func (s sight) same(other sight) bool {
	return len(s.messages) == len(other.messages) && len(s.events) == len(other.events) &&
		(len(s.messages) == 0 || reflect.DeepEqual(s.messages, other.messages)) &&
		(len(s.events) == 0 || reflect.DeepEqual(s.events, other.events)) &&
		reflect.DeepEqual(s.states, other.states) && reflect.DeepEqual(s.disks, other.disks)
}

// refused is a call that answers an error and changes nothing.
func refused(t testing.TB, what string, town *hustings.Town, want api.Errno, call func() api.Errno) {
	t.Helper()
	before := see(town)
	answer(t, what, call(), want)
	if after := see(town); !before.same(after) {
		t.Fatalf("%s was refused, and changed\n%+v to\n%+v", what, before, after)
	}
}
