package tests

import (
	"bytes"
	"fmt"
	"math"
	"math/rand"
	"slices"
	"testing"

	"loop.example/g00791/impl"
)

func twoNodes() impl.Config { return impl.Config{Nodes: 2, Copies: 2} }

func threeNodes() impl.Config { return impl.Config{Nodes: 3, Copies: 2} }

func ticks(node int64, count int) []impl.Event {
	return slices.Repeat([]impl.Event{nodeEvent(impl.EvTick, node)}, count)
}

func comes(count int) []impl.Event {
	return slices.Repeat([]impl.Event{flightEvent(impl.EvCome, 0)}, count)
}

// sampleAt is what the write of 7 in the series 0 at the time 5 comes to, as
// the event of this number.
func sampleAt(number int64) impl.Sample {
	return impl.Sample{Series: 0, Time: 5, Id: number, Value: 7}
}

// owedAndSent has a sample on node 0 that is owed to node 1, and nothing else
// that flies but the MsgStore of it.
func owedAndSent() []impl.Event {
	return []impl.Event{writeEvent(0, 0, 5, 7), nodeEvent(impl.EvTick, 0), flightEvent(impl.EvLose, 0)}
}

func checkDisk(t *testing.T, what string, n impl.Node, records ...impl.Record) {
	t.Helper()
	if !bytes.Equal(n.Disk, diskOf(records...)) {
		t.Errorf("%s: the disk is %v; want %v", what, n.Disk, diskOf(records...))
	}
}

func checkFlights(t *testing.T, what string, w impl.World, want ...impl.Message) {
	t.Helper()
	if fmt.Sprint(w.Flights) != fmt.Sprint(want) {
		t.Errorf("%s: %v fly; want %v", what, w.Flights, want)
	}
}

// checkLastCode asks that the last of the events has this code, and that with
// one it turned nothing.
func checkLastCode(t *testing.T, what string, c impl.Config, code int64, events ...impl.Event) {
	t.Helper()
	last := len(events) - 1
	got, ahead := ranWorld(t, c, events...), ranWorld(t, c, events[:last]...)
	if got.Codes[last] != code {
		t.Errorf("%s: the codes are %v; want %d at the end", what, got.Codes, code)
	}
	if code != impl.OK {
		ahead.Codes = append(ahead.Codes, code)
		checkSameWorlds(t, what, got, ahead)
	}
}

func TestWorldAtFirst(t *testing.T) {
	for _, c := range wholeConfigs() {
		w := ranWorld(t, c)
		if int64(len(w.Nodes)) != c.Nodes || len(w.Flights)+len(w.Answered)+len(w.Codes) != 0 {
			t.Errorf("at first there is %v", w)
		}
		for self, n := range w.Nodes {
			if !n.Up || len(n.Disk) != 0 || !isState(n.State, impl.State{}) || n.Clock != 0 || n.Probe != int64(self) || n.Wait != -1 ||
				!slices.Equal(n.Members, slices.Repeat([]impl.Member{{Mark: mark(1, 0)}}, int(c.Nodes))) {
				t.Errorf("of %v node %d is %v at first", c, self, n)
			}
		}
	}
}

func TestWrite(t *testing.T) {
	x := sampleAt(1)
	w := ranWorld(t, twoNodes(), writeEvent(0, 10, 5, 7), writeEvent(0, 0, 5, 7))
	checkDisk(t, "its own home comes first", w.Nodes[0], impl.Record{Kind: 1, Sample: x}, impl.Record{Kind: 2, Node: 1, Sample: x})
	if !slices.Equal(w.Answered, []impl.Sample{x}) || !isState(w.Nodes[0].State, impl.State{Store: []impl.Sample{x}, Hints: []impl.Hint{{Node: 1, Sample: x}}}) {
		t.Errorf("%v is answered, the state is %v", w.Answered, w.Nodes[0].State)
	}
	checkFlights(t, "a write sends nothing", w)
	checkDisk(t, "the other node", w.Nodes[1])

	// The homes of the series 0 are 0, 2, 1, 3, in this order.
	x = sampleAt(0)
	w = ranWorld(t, impl.Config{Nodes: 4, Copies: 4}, writeEvent(1, 0, 5, 7))
	checkDisk(t, "home by home", w.Nodes[1],
		impl.Record{Kind: 2, Node: 0, Sample: x}, impl.Record{Kind: 2, Node: 2, Sample: x}, impl.Record{Kind: 1, Sample: x}, impl.Record{Kind: 2, Node: 3, Sample: x})
	w = ranWorld(t, impl.Config{Nodes: 4, Copies: 2}, writeEvent(3, 0, 5, 7))
	checkDisk(t, "it is no home itself", w.Nodes[3], impl.Record{Kind: 2, Node: 0, Sample: x}, impl.Record{Kind: 2, Node: 2, Sample: x})
	if len(w.Nodes[3].State.Store) != 0 || len(w.Answered) != 1 {
		t.Error("a write on a node that is no home:", w.Nodes[3].State, w.Answered)
	}
}

func TestWriteHasRoomForItsHints(t *testing.T) {
	// So many writes have room, by how many other nodes are homes.
	for _, c := range []struct {
		config impl.Config
		series int64
		room   int
	}{
		{twoNodes(), 0, 8},
		{impl.Config{Nodes: 2, Copies: 1}, 1, 8},
		{impl.Config{Nodes: 3, Copies: 3}, 0, 4},
		{impl.Config{Nodes: 4, Copies: 4}, 0, 2},
		{impl.Config{Nodes: 4, Copies: 3}, 7, 2},
		{impl.Config{Nodes: 4, Copies: 3}, 1, 4},
	} {
		events := slices.Repeat([]impl.Event{writeEvent(0, c.series, 5, 7)}, c.room)
		for size := range events {
			checkLastCode(t, "there is room", c.config, impl.OK, events[:size+1]...)
		}
		checkLastCode(t, "there is no room", c.config, impl.ErrFull, append(events, writeEvent(0, c.series, 5, 7))...)
		checkLastCode(t, "there is no room for what is torn", c.config, impl.ErrFull, append(events, tornEvent(writeEvent(0, c.series, 5, 7), 0))...)
	}
	// What is owed to nobody has room beside as many hints as there can be.
	full := slices.Repeat([]impl.Event{writeEvent(0, 1, 5, 7)}, 8)
	checkLastCode(t, "its own", impl.Config{Nodes: 2, Copies: 1}, impl.OK, append(full, writeEvent(0, 0, 5, 7))...)
	alone := slices.Repeat([]impl.Event{writeEvent(0, 1, 5, 7)}, 150)
	if w := ranWorld(t, impl.Config{Nodes: 1, Copies: 1}, alone...); len(w.Answered) != 150 || len(w.Nodes[0].State.Store) != 150 {
		t.Errorf("of 150 writes on a node alone %d are answered", len(w.Answered))
	}
}

func TestTornWrite(t *testing.T) {
	x := sampleAt(0)
	records := []impl.Record{{Kind: 1, Sample: x}, {Kind: 2, Node: 1, Sample: x}}
	whole := diskOf(records...)
	for _, keep := range append([]int64{1000, math.MaxInt64}, slices.Collect(rangeOf(0, 24))...) {
		torn := tornEvent(writeEvent(0, 0, 5, 7), keep)
		w := ranWorld(t, twoNodes(), torn)
		n := w.Nodes[0]
		if n.Up || !bytes.Equal(n.Disk, whole[:min(keep, 23)]) || !isState(n.State, impl.State{}) || len(w.Answered) != 0 || w.Codes[0] != impl.OK {
			t.Errorf("torn at %d: %v, answered %v, codes %v", keep, n, w.Answered, w.Codes)
		}
		// What is whole of it is there when the node comes again, and is owed.
		said := records[:0]
		if keep >= 11 {
			said = records[:1]
		}
		if keep >= 23 {
			said = records
		}
		n = ranWorld(t, twoNodes(), torn, nodeEvent(impl.EvUp, 0)).Nodes[0]
		checkDisk(t, fmt.Sprint("up again, torn at ", keep), n, append(slices.Clone(said), impl.Record{Kind: 4, Number: 1})...)
		if want := stateOf(t, append(slices.Clone(said), impl.Record{Kind: 4, Number: 1})...); !n.Up || !isState(n.State, want) {
			t.Errorf("torn at %d and up again: %v; want %v", keep, n, want)
		}
	}
}

// rangeOf has the numbers from low to high.
func rangeOf(low int64, high int64) func(yield func(int64) bool) {
	return func(yield func(int64) bool) {
		for n := low; n <= high && yield(n); n++ {
		}
	}
}

func TestTickProbesOneNodeBehindTheOther(t *testing.T) {
	for _, c := range []struct {
		nodes int64
		self  int64
		want  []int64
	}{
		{2, 0, []int64{1, 1, 1}},
		{2, 1, []int64{0, 0, 0}},
		{3, 0, []int64{1, 2, 1, 2}},
		{3, 1, []int64{2, 0, 2, 0}},
		{3, 2, []int64{0, 1, 0, 1}},
		{4, 0, []int64{1, 2, 3, 1}},
		{4, 2, []int64{3, 0, 1, 3, 0, 1}},
		{4, 3, []int64{0, 1, 2, 0}},
	} {
		for i, next := range c.want {
			w := ranWorld(t, impl.Config{Nodes: c.nodes, Copies: 1}, ticks(c.self, i+1)...)
			n, last := w.Nodes[c.self], w.Flights[len(w.Flights)-1]
			if n.Clock != int64(i+1) || n.Probe != next || n.Wait != next || len(w.Flights) != i+1 || last.Kind != impl.MsgPing || last.From != c.self || last.To != next {
				t.Errorf("of %d nodes %d is %v at tick %d, and sends %v; want a ping to %d", c.nodes, c.self, n, i+1, last, next)
			}
			if got := plainMarks(n, c.self); !slices.Equal(last.Marks, got) {
				t.Errorf("a ping tells %v; want %v", last.Marks, got)
			}
		}
	}
	w := ranWorld(t, impl.Config{Nodes: 1, Copies: 1}, ticks(0, 3)...)
	checkFlights(t, "nobody else is there", w)
	if n := w.Nodes[0]; n.Clock != 3 || n.Probe != 0 || n.Wait != -1 {
		t.Error("a node alone is", n)
	}
}

func TestTickSuspectsWhoDidNotAnswer(t *testing.T) {
	// The ping of tick 1 is not answered by tick 2; four ticks on it is dead.
	for tick, want := range map[int]impl.Member{1: member(1, 0, 0), 2: member(2, 0, 2), 5: member(2, 0, 2), 6: member(3, 0, 6), 20: member(3, 0, 6)} {
		w := ranWorld(t, twoNodes(), ticks(0, tick)...)
		if got := w.Nodes[0].Members[1]; got != want {
			t.Errorf("at tick %d node 1 is %v; want %v", tick, got, want)
		}
		if got := w.Nodes[0].Members[0]; got != member(1, 0, 0) {
			t.Errorf("at tick %d node 0 is %v to itself", tick, got)
		}
		// What is told is what has just become of it.
		if got := w.Flights[tick-1].Marks; !slices.Equal(got, []impl.Mark{mark(1, 0), want.Mark}) {
			t.Errorf("at tick %d the ping tells %v", tick, got)
		}
	}
	// It answers in time.
	answered := slices.Concat(ticks(0, 1), comes(2))
	w := ranWorld(t, twoNodes(), slices.Concat(answered, ticks(0, 1))...)
	if got := w.Nodes[0].Members[1]; got != member(1, 0, 0) {
		t.Errorf("node 1 answered, and is %v", got)
	}
}

func TestDueHintsAreSent(t *testing.T) {
	store := impl.Message{Kind: impl.MsgStore, From: 0, To: 1, Sample: sampleAt(0)}
	sent := map[int]impl.Hint{1: {Tries: 1, Due: 2}, 2: {Tries: 2, Due: 4}, 4: {Tries: 3, Due: 8}, 8: {Tries: 4, Due: 16}, 16: {Tries: 4, Due: 32}}
	var hint impl.Hint
	for tick := 1; tick <= 20; tick++ {
		events := []impl.Event{writeEvent(0, 0, 5, 7)}
		for range tick {
			// What flew ahead of this tick is lost.
			events = append(events, flightEvent(impl.EvLose, 0), flightEvent(impl.EvLose, 0), nodeEvent(impl.EvTick, 0))
		}
		w := ranWorld(t, twoNodes(), events...)
		ping := impl.Message{Kind: impl.MsgPing, From: 0, To: 1, Marks: plainMarks(w.Nodes[0], 0)}
		if next, is := sent[tick]; is {
			hint = impl.Hint{Node: 1, Sample: sampleAt(0), Tries: next.Tries, Due: next.Due}
			checkFlights(t, fmt.Sprint("due at ", tick), w, ping, store)
		} else {
			checkFlights(t, fmt.Sprint("not due at ", tick), w, ping)
		}
		if got := w.Nodes[0].State.Hints; !slices.Equal(got, []impl.Hint{hint}) {
			t.Errorf("at tick %d it owes %v; want %v", tick, got, hint)
		}
		checkDisk(t, "to send writes nothing", w.Nodes[0], impl.Record{Kind: 1, Sample: sampleAt(0)}, impl.Record{Kind: 2, Node: 1, Sample: sampleAt(0)})
	}
	// Several are sent in their order, behind the ping.
	w := ranWorld(t, impl.Config{Nodes: 3, Copies: 3}, writeEvent(0, 0, 5, 7), writeEvent(0, 1, 6, 8), nodeEvent(impl.EvTick, 0))
	other := impl.Sample{Series: 1, Time: 6, Id: 1, Value: 8}
	checkFlights(t, "several", w,
		impl.Message{Kind: impl.MsgPing, To: 1, Marks: plainMarks(w.Nodes[0], 0)},
		impl.Message{Kind: impl.MsgStore, To: 2, Sample: sampleAt(0)}, impl.Message{Kind: impl.MsgStore, To: 1, Sample: sampleAt(0)},
		impl.Message{Kind: impl.MsgStore, To: 1, Sample: other}, impl.Message{Kind: impl.MsgStore, To: 2, Sample: other})
}

func TestFullFlights(t *testing.T) {
	full := ticks(0, 40)
	checkLastCode(t, "the last one that has room", twoNodes(), impl.OK, full...)
	if w := ranWorld(t, twoNodes(), full...); len(w.Flights) != 40 {
		t.Fatal(len(w.Flights), "fly")
	}
	checkLastCode(t, "a copy of full ones", twoNodes(), impl.ErrFull, append(full, flightEvent(impl.EvCopy, 39))...)
	checkLastCode(t, "a copy of the last place", twoNodes(), impl.OK, append(full[:39], flightEvent(impl.EvCopy, 38))...)
	// What is sent then is lost, but the tick is as it is else.
	w := ranWorld(t, twoNodes(), slices.Concat([]impl.Event{writeEvent(0, 0, 5, 7)}, ticks(0, 41))...)
	last := w.Flights[39]
	if n := w.Nodes[0]; len(w.Flights) != 40 || n.Clock != 41 || n.Wait != 1 || !slices.Equal(n.State.Hints, []impl.Hint{{Node: 1, Sample: sampleAt(0), Tries: 4, Due: 48}}) {
		t.Error("a tick over full ones:", w.Nodes[0])
	}
	if last.Kind != impl.MsgPing || last.Marks[1].State != impl.StDead {
		t.Error("the last one that flies is", last)
	}
	// One place is left: the ping has it, and the sample is lost.
	w = ranWorld(t, twoNodes(), slices.Concat(ticks(0, 39), []impl.Event{writeEvent(0, 0, 5, 7), nodeEvent(impl.EvTick, 0)})...)
	if got := w.Flights[39]; got.Kind != impl.MsgPing || w.Nodes[0].State.Hints[0].Tries != 1 {
		t.Error("the last place has", got, "and it owes", w.Nodes[0].State.Hints)
	}
	// What comes leaves room for its answer.
	w = ranWorld(t, twoNodes(), slices.Concat(full, comes(1))...)
	if got := w.Flights[39]; len(w.Flights) != 40 || got.Kind != impl.MsgAck || got.From != 1 || got.To != 0 {
		t.Error("the answer is", got)
	}
}

func TestStoreAndStoredCome(t *testing.T) {
	x := sampleAt(0)
	events := slices.Concat(owedAndSent(), comes(1))
	w := ranWorld(t, twoNodes(), events...)
	checkDisk(t, "it is written", w.Nodes[1], impl.Record{Kind: 1, Sample: x})
	checkFlights(t, "it is answered", w, impl.Message{Kind: impl.MsgStored, From: 1, To: 0, Id: 0})
	if len(w.Nodes[0].State.Hints) != 1 || !slices.Equal(w.Nodes[1].State.Store, []impl.Sample{x}) || len(w.Answered) != 1 {
		t.Error("stored:", w.Nodes)
	}
	w = ranWorld(t, twoNodes(), slices.Concat(events, comes(1))...)
	done := []impl.Record{{Kind: 1, Sample: x}, {Kind: 2, Node: 1, Sample: x}, {Kind: 3, Node: 1, Number: 0}}
	checkDisk(t, "it is done", w.Nodes[0], done...)
	checkFlights(t, "a MsgStored is not answered", w)
	if len(w.Nodes[0].State.Hints) != 0 {
		t.Error("it still owes", w.Nodes[0].State.Hints)
	}
	// The same comes for a second time: it is written once, and answered twice.
	again := slices.Concat(owedAndSent(), []impl.Event{flightEvent(impl.EvCopy, 0)}, comes(2))
	w = ranWorld(t, twoNodes(), again...)
	answer := impl.Message{Kind: impl.MsgStored, From: 1, To: 0, Id: 0}
	checkDisk(t, "it is written once", w.Nodes[1], impl.Record{Kind: 1, Sample: x})
	checkFlights(t, "it is answered twice", w, answer, answer)
	checkDisk(t, "it is done once", ranWorld(t, twoNodes(), slices.Concat(again, comes(2))...).Nodes[0], done...)
	// What is done by another Id or another node is not done.
	w = ranWorld(t, impl.Config{Nodes: 3, Copies: 3}, slices.Concat([]impl.Event{writeEvent(0, 0, 5, 7), writeEvent(0, 0, 5, 7), nodeEvent(impl.EvTick, 0)}, []impl.Event{flightEvent(impl.EvCome, 4)}, []impl.Event{flightEvent(impl.EvCome, 4)})...)
	if got := w.Nodes[0].State.Hints; len(got) != 3 || plainHintPlace(got, 1, 1) >= 0 {
		t.Error("of four one is done; owed are", got)
	}
}

func TestCopyOfAnAnswer(t *testing.T) {
	// The answer flies twice; who has heard it once has nothing to write.
	events := slices.Concat(owedAndSent(), comes(1), []impl.Event{flightEvent(impl.EvCopy, 0)})
	w := ranWorld(t, twoNodes(), events...)
	answer := impl.Message{Kind: impl.MsgStored, From: 1, To: 0, Id: 0}
	checkFlights(t, "copied", w, answer, answer)
	once := ranWorld(t, twoNodes(), slices.Concat(events, comes(1))...).Nodes[0]
	twice := ranWorld(t, twoNodes(), slices.Concat(events, comes(2))...).Nodes[0]
	if len(once.Disk) != 30 || !impl.SameNodes(once, twice) {
		t.Error("the copy of an answer is written:", once, twice)
	}
	// Torn it takes the node down, though there was nothing to write.
	torn := ranWorld(t, twoNodes(), slices.Concat(events, comes(1), []impl.Event{tornEvent(flightEvent(impl.EvCome, 0), 5)})...).Nodes[0]
	if torn.Up || len(torn.Disk) != 30 {
		t.Error("the copy of an answer, torn:", torn)
	}
	// A copy stands behind all, what it is of stays.
	pings := slices.Concat(ticks(0, 1), ticks(1, 1), []impl.Event{flightEvent(impl.EvCopy, 0)})
	w = ranWorld(t, twoNodes(), pings...)
	if len(w.Flights) != 3 || !impl.SameMessages(w.Flights[0], w.Flights[2]) || impl.SameMessages(w.Flights[0], w.Flights[1]) {
		t.Error("there fly", w.Flights)
	}
}

func TestTornStoreAndStored(t *testing.T) {
	x := sampleAt(0)
	for keep := range int64(13) {
		torn := tornEvent(flightEvent(impl.EvCome, 0), keep)
		events := append(owedAndSent(), torn)
		w := ranWorld(t, twoNodes(), events...)
		if n := w.Nodes[1]; n.Up || int64(len(n.Disk)) != min(keep, 11) || len(n.State.Store) != 0 {
			t.Errorf("a sample torn at %d: %v", keep, n)
		}
		checkFlights(t, "what is torn is not answered", w)
		up := ranWorld(t, twoNodes(), append(events, nodeEvent(impl.EvUp, 1))...).Nodes[1]
		if slices.Contains(up.State.Store, x) != (keep >= 11) {
			t.Errorf("a sample torn at %d, and up again: %v", keep, up)
		}
		events = slices.Concat(owedAndSent(), comes(1), []impl.Event{torn})
		w = ranWorld(t, twoNodes(), events...)
		if n := w.Nodes[0]; n.Up || int64(len(n.Disk)) != 23+min(keep, 7) || len(n.State.Hints) != 1 {
			t.Errorf("an answer torn at %d: %v", keep, n)
		}
		up = ranWorld(t, twoNodes(), append(events, nodeEvent(impl.EvUp, 0))...).Nodes[0]
		if (len(up.State.Hints) == 0) != (keep >= 7) {
			t.Errorf("an answer torn at %d, and up again: %v", keep, up)
		}
	}
}

func TestMessageToOneThatIsDown(t *testing.T) {
	down := append(owedAndSent(), nodeEvent(impl.EvDown, 1))
	ahead := ranWorld(t, twoNodes(), down...)
	for _, e := range []impl.Event{flightEvent(impl.EvCome, 0), tornEvent(flightEvent(impl.EvCome, 0), 100), flightEvent(impl.EvLose, 0)} {
		w := ranWorld(t, twoNodes(), append(down, e)...)
		want := ahead
		want.Flights, want.Codes = nil, append(slices.Clone(ahead.Codes), impl.OK)
		checkSameWorlds(t, fmt.Sprint("it is lost with ", e), w, want)
	}
	// It is told again when it is due, and then the other one is there.
	events := slices.Concat(down, comes(1), []impl.Event{nodeEvent(impl.EvUp, 1), nodeEvent(impl.EvTick, 0), flightEvent(impl.EvLose, 0)}, comes(2))
	w := ranWorld(t, twoNodes(), events...)
	if len(w.Nodes[0].State.Hints) != 0 || len(w.Nodes[1].State.Store) != 1 || len(w.Flights) != 0 {
		t.Error("told again:", w.Nodes)
	}
	// Who sent it may be down: its answer is lost then.
	w = ranWorld(t, twoNodes(), slices.Concat(owedAndSent(), []impl.Event{nodeEvent(impl.EvDown, 0)}, comes(2))...)
	if len(w.Nodes[1].State.Store) != 1 || len(w.Nodes[0].Disk) != 23 || len(w.Flights) != 0 {
		t.Error("the sender is down:", w.Nodes)
	}
}

func TestPingAndAckCome(t *testing.T) {
	w := ranWorld(t, twoNodes(), slices.Concat(ticks(0, 1), comes(1))...)
	checkFlights(t, "a ping is answered", w, impl.Message{Kind: impl.MsgAck, From: 1, To: 0, Marks: []impl.Mark{mark(1, 0), mark(1, 0)}})
	w = ranWorld(t, twoNodes(), slices.Concat(ticks(0, 1), comes(2))...)
	checkFlights(t, "an ack is not answered", w)
	if w.Nodes[0].Wait != -1 || len(w.Nodes[0].Disk)+len(w.Nodes[1].Disk) != 0 {
		t.Error("who answered is waited for:", w.Nodes)
	}
	// Node 0 waits for 2 by then: the ack of 1 comes late.
	w = ranWorld(t, threeNodes(), slices.Concat(ticks(0, 2), comes(1), []impl.Event{flightEvent(impl.EvCome, 1)})...)
	if n := w.Nodes[0]; n.Wait != 2 || n.Members[1] != member(2, 0, 2) {
		t.Error("after a late ack:", n)
	}
	// The ping tells 1 that it is suspect; it says that it is not, and is heard.
	suspect := slices.Concat(ticks(0, 2), []impl.Event{flightEvent(impl.EvLose, 0)}, comes(1))
	w = ranWorld(t, twoNodes(), suspect...)
	checkDisk(t, "it says that it is there", w.Nodes[1], impl.Record{Kind: 4, Number: 1})
	checkFlights(t, "the answer has the new life", w, impl.Message{Kind: impl.MsgAck, From: 1, To: 0, Marks: []impl.Mark{mark(1, 0), mark(1, 1)}})
	if w.Nodes[1].Members[1] != member(1, 0, 0) {
		t.Error("to itself it is", w.Nodes[1].Members[1])
	}
	if n := ranWorld(t, twoNodes(), slices.Concat(suspect, comes(1))...).Nodes[0]; n.Members[1] != member(1, 1, 2) || n.Wait != -1 {
		t.Error("it is heard as", n)
	}
	// Node 0 is told of 2 by 1, who never pinged it itself.
	told := slices.Concat(ticks(1, 2), []impl.Event{flightEvent(impl.EvLose, 0)}, comes(1))
	if n := ranWorld(t, threeNodes(), told...).Nodes[0]; n.Members[2] != member(2, 0, 0) || n.Members[1] != member(1, 0, 0) {
		t.Error("what is told of another one:", n)
	}
	// A mark that is heard counts from one's own clock on.
	told = slices.Concat(ticks(0, 7), []impl.Event{nodeEvent(impl.EvDown, 1), nodeEvent(impl.EvUp, 1), nodeEvent(impl.EvTick, 1), flightEvent(impl.EvCome, 7)})
	if n := ranWorld(t, twoNodes(), told...).Nodes[0]; n.Members[1] != member(1, 1, 7) {
		t.Error("who came again is", n.Members[1])
	}
}

func TestTornPingAndAck(t *testing.T) {
	suspect := append(ticks(0, 2), flightEvent(impl.EvLose, 0))
	for keep := range int64(8) {
		torn := tornEvent(flightEvent(impl.EvCome, 0), keep)
		w := ranWorld(t, twoNodes(), append(suspect, torn)...)
		if n := w.Nodes[1]; n.Up || int64(len(n.Disk)) != min(keep, 6) || n.State.Life != 0 {
			t.Errorf("a ping torn at %d: %v", keep, n)
		}
		checkFlights(t, "a ping that is torn is not answered", w)
		up := ranWorld(t, twoNodes(), append(suspect, torn, nodeEvent(impl.EvUp, 1))...).Nodes[1]
		if up.State.Life != 1+keep/6 {
			t.Errorf("a ping torn at %d, and up again: %v", keep, up)
		}
	}
	// An ack that would be heard, and for which it waits.
	torn := tornEvent(flightEvent(impl.EvCome, 0), 100)
	n := ranWorld(t, twoNodes(), slices.Concat(suspect, comes(1), []impl.Event{torn})...).Nodes[0]
	if n.Up || n.Wait != 1 || n.Members[1] != member(2, 0, 2) || len(n.Disk) != 0 {
		t.Error("an ack that is torn:", n)
	}
}

func TestComeUp(t *testing.T) {
	x := sampleAt(0)
	events := slices.Concat(owedAndSent(), ticks(0, 6), []impl.Event{nodeEvent(impl.EvDown, 0)})
	down := ranWorld(t, twoNodes(), events...).Nodes[0]
	if down.Up || down.Clock != 7 || down.Members[1].Mark.State != impl.StDead || down.State.Hints[0].Tries != 3 {
		t.Fatal("down:", down)
	}
	n := ranWorld(t, twoNodes(), append(events, nodeEvent(impl.EvUp, 0))...).Nodes[0]
	want := impl.Node{
		Up:      true,
		Disk:    diskOf(impl.Record{Kind: 1, Sample: x}, impl.Record{Kind: 2, Node: 1, Sample: x}, impl.Record{Kind: 4, Number: 1}),
		State:   impl.State{Store: []impl.Sample{x}, Hints: []impl.Hint{{Node: 1, Sample: x}}, Life: 1},
		Members: plainMembers(2, 7), Clock: 7, Probe: 0, Wait: -1,
	}
	if fmt.Sprint(n) != fmt.Sprint(want) {
		t.Errorf("up again it is %v; want %v", n, want)
	}
	// Each time it comes it has one life more.
	var lives []impl.Record
	again := []impl.Event{}
	for life := int64(1); life <= 75; life++ {
		again = append(again, nodeEvent(impl.EvDown, 2), nodeEvent(impl.EvUp, 2))
		lives = append(lives, impl.Record{Kind: 4, Number: life})
		if life%25 == 0 {
			n = ranWorld(t, threeNodes(), again...).Nodes[2]
			checkDisk(t, "lives", n, lives...)
			if n.State.Life != life || n.Probe != 2 {
				t.Error("up again it is", n)
			}
		}
	}
	// What is torn in the midst is cut off, and what is written then is said.
	torn := []impl.Event{writeEvent(0, 0, 5, 7), tornEvent(writeEvent(0, 0, 6, 8), 15), nodeEvent(impl.EvUp, 0), writeEvent(0, 1, 9, 9)}
	w := ranWorld(t, twoNodes(), torn...)
	said := impl.RecoverDisk(w.Nodes[0].Disk)
	if said.Size != int64(len(w.Nodes[0].Disk)) || len(said.Records) != 6 || !isState(said.State, w.Nodes[0].State) || len(w.Answered) != 2 {
		t.Errorf("the disk says %v; the node knows %v", said, w.Nodes[0].State)
	}
	checkLastCode(t, "the Id of a torn one is not given again", twoNodes(), impl.OK, torn...)
}

// metOften asks that all of this was met at least so often.
func metOften(t *testing.T, met map[string]int, often int, what ...string) {
	t.Helper()
	for _, key := range what {
		if met[key] < often {
			t.Errorf("%q is met %d times", key, met[key])
		}
	}
}

func TestMixedWorlds(t *testing.T) {
	r := rand.New(rand.NewSource(8))
	met := map[string]int{}
	for i := range 1200 {
		c := wholeConfigs()[r.Intn(10)]
		events := moodEvents(r, moods()[i%len(moods())], c.Nodes, r.Intn(151))
		got := impl.RunWorld(c, events)
		want, now := plainWorld(c, events)
		checkSameWorlds(t, fmt.Sprint(c, events), got.World, want)
		if got.Code != impl.OK {
			t.Fatalf("%v, %v: the code %d", c, events, got.Code)
		}
		for key, often := range now {
			met[key] += often
		}
	}
	for kind := 1; kind <= 7; kind++ {
		metOften(t, met, 20, fmt.Sprint("code 0 of ", kind), fmt.Sprint("code 1 of ", kind))
		metOften(t, met, 5, fmt.Sprint("code 3 of ", kind), fmt.Sprint("code 4 of ", kind))
	}
	for kind := 1; kind <= 4; kind++ {
		for _, torn := range []bool{false, true} {
			metOften(t, met, 5, fmt.Sprint("comes ", kind, ", torn ", torn, ", writes false"), fmt.Sprint("comes ", kind, ", torn ", torn, ", writes true"))
		}
	}
	for tries := range 5 {
		metOften(t, met, 20, fmt.Sprint("sent with tries ", tries))
	}
	for state := 1; state <= 3; state++ {
		metOften(t, met, 20, fmt.Sprint("heard ", state, " of the sender false"))
	}
	metOften(t, met, 20, "code 7 of 1", "code 7 of 5", "code 8 of 1", "code 8 of 2", "code 8 of 6", "code 8 of 7",
		"lost, as it is down", "not sent 1", "not sent 3", "dies", "suspect", "up, cut true", "up, cut false", "heard 1 of the sender true",
		"torn 1: some of it true, all of it false", "torn 1: some of it true, all of it true", "torn 3: some of it true, all of it false", "torn 3: some of it true, all of it true")
}
