package tests

import (
	"math"
	"slices"
	"testing"

	"loop.example/g00791/impl"
)

func TestWorldConstants(t *testing.T) {
	got := []int64{
		impl.MaxFlights, impl.MaxEvents, impl.NoNode,
		impl.MsgStore, impl.MsgStored, impl.MsgPing, impl.MsgAck,
		impl.EvWrite, impl.EvTick, impl.EvCome, impl.EvLose, impl.EvCopy, impl.EvDown, impl.EvUp,
	}
	if !slices.Equal(got, []int64{40, 150, -1, 1, 2, 3, 4, 1, 2, 3, 4, 5, 6, 7}) {
		t.Error("the constants are", got)
	}
}

func TestConfigFault(t *testing.T) {
	for _, c := range wholeConfigs() {
		if got := impl.ConfigFault(c); got != impl.OK {
			t.Errorf("ConfigFault(%v) = %d; want none", c, got)
		}
	}
	for nodes := int64(1); nodes <= 4; nodes++ {
		for _, copies := range append(numbersPast(1, nodes), 0) {
			if got := impl.ConfigFault(impl.Config{Nodes: nodes, Copies: copies}); got != impl.ErrRange {
				t.Errorf("ConfigFault of %d nodes and %d copies = %d", nodes, copies, got)
			}
		}
	}
	for _, nodes := range append(numbersPast(1, 4), 0) {
		for _, copies := range []int64{-1, 0, 1, 4, 5, nodes, nodes - 1} {
			if got := impl.ConfigFault(impl.Config{Nodes: nodes, Copies: copies}); got != impl.ErrRange {
				t.Errorf("ConfigFault of %d nodes and %d copies = %d", nodes, copies, got)
			}
		}
	}
}

// wholeEvents are of all kinds, with each number at both its ends.
func wholeEvents() []impl.Event {
	var list []impl.Event
	for _, x := range endSamples() {
		list = append(list, writeEvent(x.Id%4, x.Series, x.Time, x.Value))
	}
	for node := range int64(4) {
		list = append(list, writeEvent(node, 1, 2, 3), nodeEvent(impl.EvTick, node), nodeEvent(impl.EvDown, node), nodeEvent(impl.EvUp, node))
	}
	for _, n := range []int64{0, 1, 38, 39} {
		list = append(list, flightEvent(impl.EvCome, n), flightEvent(impl.EvLose, n), flightEvent(impl.EvCopy, n))
	}
	for _, keep := range []int64{0, 1, 11, 47, 48, math.MaxInt64} {
		list = append(list, tornEvent(writeEvent(3, 9, 999, -1000), keep), tornEvent(flightEvent(impl.EvCome, 39), keep))
	}
	return list
}

type faultyEvent struct {
	what  string
	event impl.Event
	code  int64
}

func faultyEvents() []faultyEvent {
	list := []faultyEvent{
		{"all zero", impl.Event{}, impl.ErrForm},
		{"not torn, and a Keep", impl.Event{Kind: 1, Keep: 1}, impl.ErrForm},
		{"not torn, and a Keep below 0", impl.Event{Kind: 3, Keep: -1}, impl.ErrForm},
		{"out of bounds, not torn, and a Keep", impl.Event{Kind: 1, Node: 4, Series: 10, Keep: 1}, impl.ErrForm},
		{"a write at a place, out of bounds", impl.Event{Kind: 1, N: 40, Node: -1}, impl.ErrForm},
		{"a torn tick out of bounds", impl.Event{Kind: 2, Torn: true, Node: 4}, impl.ErrForm},
		{"all of a write out of bounds", impl.Event{Kind: 1, Node: 4, Series: 10, Time: -1, Value: 1001, Torn: true, Keep: -1}, impl.ErrRange},
	}
	for _, kind := range []int64{-1, 8, 9, 255, 256, 257, 1<<32 + 1, math.MinInt64, math.MaxInt64} {
		list = append(list, faultyEvent{"no such kind", impl.Event{Kind: kind}, impl.ErrForm})
	}
	// By kind, the fields that it does not need, as withEventField counts them.
	for kind, fields := range map[int64][]int{1: {2, 7}, 2: {2, 3, 4, 5, 6, 7}, 3: {1, 3, 4, 5, 7}, 4: {1, 3, 4, 5, 6, 7}, 5: {1, 3, 4, 5, 6, 7}, 6: {2, 3, 4, 5, 6, 7}, 7: {2, 3, 4, 5, 6, 7}} {
		for _, field := range fields {
			for _, n := range []int64{1, -1, 3, 1001, math.MinInt64 + 1, math.MaxInt64} {
				list = append(list, faultyEvent{"what it does not need", withEventField(impl.Event{Kind: kind}, field, n), impl.ErrForm})
			}
		}
	}
	for _, n := range numbersPast(0, 3) {
		for _, kind := range []int64{1, 2, 6, 7} {
			list = append(list, faultyEvent{"no such node", nodeEvent(kind, n), impl.ErrRange})
		}
	}
	for _, n := range numbersPast(0, 39) {
		for _, kind := range []int64{3, 4, 5} {
			list = append(list, faultyEvent{"no such place", flightEvent(kind, n), impl.ErrRange})
		}
	}
	for _, n := range []int64{-1, -2, math.MinInt64} {
		list = append(list, faultyEvent{"a Keep below 0", tornEvent(writeEvent(0, 0, 0, 0), n), impl.ErrRange}, faultyEvent{"a Keep below 0", tornEvent(flightEvent(impl.EvCome, 0), n), impl.ErrRange})
	}
	for _, x := range faultySamples() {
		if x.Series < 0 || x.Series > 9 || x.Time < 0 || x.Time > 999 || x.Value < -1000 || x.Value > 1000 {
			list = append(list, faultyEvent{"a sample with a fault", writeEvent(0, x.Series, x.Time, x.Value), impl.ErrRange})
		}
	}
	return list
}

func TestEventFault(t *testing.T) {
	for _, e := range wholeEvents() {
		if got := impl.EventFault(e); got != impl.OK {
			t.Errorf("EventFault(%v) = %d; want none", e, got)
		}
	}
	for _, c := range faultyEvents() {
		if plainEventFault(c.event) != c.code {
			t.Fatal(c.what, c.event, "is told in two ways by the tests")
		}
		if got := impl.EventFault(c.event); got != c.code {
			t.Errorf("%s: EventFault(%v) = %d; want %d", c.what, c.event, got, c.code)
		}
		checkLastCode(t, c.what, threeNodes(), c.code, writeEvent(0, 0, 5, 7), nodeEvent(impl.EvTick, 0), c.event)
	}
}

func TestMarksOf(t *testing.T) {
	members := []impl.Member{member(2, 7, 1), member(3, 60000, 2), member(1, 0, 3), member(2, 1, 4)}
	for size := int64(1); size <= 4; size++ {
		n := impl.Node{Members: members[:size], State: impl.State{Life: 9}}
		for self := range size {
			want := plainMarks(n, self)
			if got := impl.MarksOf(n, self); got.Code != impl.OK || !slices.Equal(got.Marks, want) || got.Marks[self] != mark(1, 9) {
				t.Errorf("MarksOf %v, self %d = %v; want %v", n, self, got, want)
			}
		}
		for _, self := range numbersPast(0, size-1) {
			if got := impl.MarksOf(n, self); got.Code != impl.ErrRange || len(got.Marks) != 0 {
				t.Errorf("MarksOf %d members, self %d = %v; want ErrRange alone", size, self, got)
			}
		}
	}
	for _, size := range []int{0, 5, 6, 1000} {
		n := impl.Node{Members: make([]impl.Member, size)}
		for self := range int64(7) {
			if got := impl.MarksOf(n, self); got.Code != impl.ErrRange || len(got.Marks) != 0 {
				t.Errorf("MarksOf %d members, self %d = %v; want ErrRange alone", size, self, got)
			}
		}
	}
}

func TestWorldThatCannotBe(t *testing.T) {
	for _, c := range []impl.Config{{}, {Nodes: 5, Copies: 1}, {Nodes: 2, Copies: 3}, {Nodes: 2}, {Nodes: -1, Copies: -1}} {
		for _, size := range []int{0, 1, 150, 151} {
			checkNoWorld(t, "a config with a fault", impl.RunWorld(c, make([]impl.Event, size)), impl.ErrRange)
		}
	}
	for _, c := range wholeConfigs() {
		for _, size := range []int{151, 152, 5000} {
			checkNoWorld(t, "too many events", impl.RunWorld(c, make([]impl.Event, size)), impl.ErrMany)
			checkNoWorld(t, "too many events", impl.RunWorld(c, ticks(0, size)), impl.ErrMany)
		}
		// Events with a fault count, too.
		if w := ranWorld(t, c, make([]impl.Event, 150)...); !slices.Equal(w.Codes, slices.Repeat([]int64{impl.ErrForm}, 150)) {
			t.Error("150 events without a kind have the codes", w.Codes)
		}
		if w := ranWorld(t, c, ticks(0, 150)...); w.Nodes[0].Clock != 150 {
			t.Error("after 150 ticks the clock is", w.Nodes[0].Clock)
		}
	}
}

func TestCodesOfEvents(t *testing.T) {
	down := nodeEvent(impl.EvDown, 1)
	for _, c := range []struct {
		what   string
		code   int64
		events []impl.Event
	}{
		{"no such node writes", impl.ErrNone, []impl.Event{writeEvent(3, 0, 0, 0)}},
		{"no such node has a tick", impl.ErrNone, []impl.Event{nodeEvent(impl.EvTick, 3)}},
		{"no such node goes down", impl.ErrNone, []impl.Event{nodeEvent(impl.EvDown, 3)}},
		{"no such node comes up", impl.ErrNone, []impl.Event{nodeEvent(impl.EvUp, 3)}},
		{"nothing comes", impl.ErrNone, []impl.Event{flightEvent(impl.EvCome, 0)}},
		{"nothing is lost", impl.ErrNone, []impl.Event{flightEvent(impl.EvLose, 0)}},
		{"nothing is copied", impl.ErrNone, []impl.Event{flightEvent(impl.EvCopy, 0)}},
		{"there is one place", impl.OK, append(ticks(0, 1), flightEvent(impl.EvCome, 0))},
		{"there is no second place to come", impl.ErrNone, append(ticks(0, 1), flightEvent(impl.EvCome, 1))},
		{"there is no second place to lose", impl.ErrNone, append(ticks(0, 1), flightEvent(impl.EvLose, 1))},
		{"there is no second place to copy", impl.ErrNone, append(ticks(0, 1), flightEvent(impl.EvCopy, 1))},
		{"a torn one of no place", impl.ErrNone, []impl.Event{tornEvent(flightEvent(impl.EvCome, 0), 0)}},
		{"who is down writes", impl.ErrState, []impl.Event{down, writeEvent(1, 0, 0, 0)}},
		{"who is down writes what is torn", impl.ErrState, []impl.Event{down, tornEvent(writeEvent(1, 0, 0, 0), 20)}},
		{"who is down has a tick", impl.ErrState, []impl.Event{down, nodeEvent(impl.EvTick, 1)}},
		{"who is down goes down", impl.ErrState, []impl.Event{down, down}},
		{"who is torn goes down", impl.ErrState, []impl.Event{tornEvent(writeEvent(1, 0, 0, 0), 20), down}},
		{"who is up comes up", impl.ErrState, []impl.Event{nodeEvent(impl.EvUp, 1)}},
		{"who came up comes up", impl.ErrState, []impl.Event{down, nodeEvent(impl.EvUp, 1), nodeEvent(impl.EvUp, 1)}},
		{"who is down comes up", impl.OK, []impl.Event{down, nodeEvent(impl.EvUp, 1)}},
		{"another one goes down", impl.OK, []impl.Event{down, nodeEvent(impl.EvDown, 2)}},
		{"a fault is asked ahead of who is there", impl.ErrRange, []impl.Event{writeEvent(3, 10, 0, 0)}},
		{"a form is asked ahead of who is there", impl.ErrForm, []impl.Event{{Kind: impl.EvTick, Node: 3, N: 1}}},
		{"a fault is asked ahead of who is down", impl.ErrRange, []impl.Event{down, writeEvent(1, 0, 0, 1001)}},
	} {
		checkLastCode(t, c.what, threeNodes(), c.code, c.events...)
	}
	// Who is down is asked ahead of room for hints.
	full := slices.Repeat([]impl.Event{writeEvent(0, 0, 5, 7)}, 8)
	checkLastCode(t, "down, and no room", twoNodes(), impl.ErrState, append(full, nodeEvent(impl.EvDown, 0), writeEvent(0, 0, 5, 7))...)
	// Who is there is asked ahead of room for what flies.
	checkLastCode(t, "no place behind full ones", twoNodes(), impl.ErrRange, append(ticks(0, 40), flightEvent(impl.EvCopy, 40))...)
}
