package tests

import (
	"fmt"
	"math"
	"math/rand"
	"reflect"
	"slices"
	"sync"
	"testing"

	"loop.example/g00791/impl"
)

// Promise 1, of the functions of chapter 8.

func oddConfigs() []impl.Config {
	list := wholeConfigs()
	for _, n := range oddNumbers() {
		list = append(list, impl.Config{Nodes: n, Copies: n}, impl.Config{Nodes: n, Copies: 1}, impl.Config{Nodes: 4, Copies: n}, impl.Config{Nodes: n, Copies: 5 - n})
	}
	return list
}

func oddEvents() []impl.Event {
	list := wholeEvents()[:200]
	for _, c := range faultyEvents() {
		list = append(list, c.event)
	}
	for _, n := range oddNumbers() {
		for field := range 8 {
			for _, e := range []impl.Event{{}, writeEvent(1, 2, 3, 4), tornEvent(flightEvent(impl.EvCome, 1), 5), nodeEvent(impl.EvTick, 0), flightEvent(impl.EvCopy, 0), nodeEvent(impl.EvUp, 3)} {
				list = append(list, withEventField(e, field, n))
			}
		}
	}
	return list
}

// oddEventLists have up to so many events as there may be, one more, and many.
func oddEventLists() [][]impl.Event {
	list := [][]impl.Event{nil, {}, {{}}, make([]impl.Event, 151), make([]impl.Event, 100000), oddEvents()}
	list = append(list, slices.Collect(slices.Chunk(oddEvents(), 150))...)
	list = append(list, slices.Collect(slices.Chunk(oddEvents(), 151))[0])
	r := rand.New(rand.NewSource(18))
	for _, m := range moods() {
		list = append(list, moodEvents(r, m, 2, 150), moodEvents(r, m, 4, 150), moodEvents(r, m, 3, 40))
	}
	return list
}

func oddNodes() []impl.Node {
	list := someNodes()
	for _, size := range []int{1, 2, 3, 4, 5, 100000} {
		list = append(list, impl.Node{Members: make([]impl.Member, size)})
	}
	for _, n := range oddNumbers() {
		odd := impl.Member{Mark: mark(n, n), Since: n}
		list = append(list, impl.Node{Members: []impl.Member{odd, odd, odd}, State: impl.State{Life: n}, Clock: n, Probe: n, Wait: n})
	}
	return list
}

func TestConfigsAndEventsAnswerAtEveryArgument(t *testing.T) {
	for _, c := range oddConfigs() {
		if got := impl.ConfigFault(c); got != plainConfigFault(c) {
			t.Fatalf("ConfigFault(%v) = %d", c, got)
		}
	}
	for _, e := range oddEvents() {
		if got := impl.EventFault(e); got != plainEventFault(e) {
			t.Fatalf("EventFault(%v) = %d", e, got)
		}
	}
}

func TestMarksAreToldAtEveryArgument(t *testing.T) {
	for _, n := range oddNodes() {
		for _, self := range oddNumbers() {
			got := impl.MarksOf(n, self)
			size := int64(len(n.Members))
			if size > 4 || self < 0 || self >= size {
				if got.Code != impl.ErrRange || len(got.Marks) != 0 {
					t.Fatalf("MarksOf %d members, self %d = %v; want ErrRange alone", size, self, got)
				}
				continue
			}
			if got.Code != impl.OK || !slices.Equal(got.Marks, plainMarks(n, self)) {
				t.Fatalf("MarksOf(%v, %d) = %v", n, self, got)
			}
		}
	}
}

func TestWorldsAnswerAtEveryArgument(t *testing.T) {
	lists := oddEventLists()
	for _, c := range oddConfigs() {
		for i, events := range lists {
			if plainConfigFault(c) != impl.OK {
				checkNoWorld(t, "a config with a fault", impl.RunWorld(c, events), impl.ErrRange)
				continue
			}
			if len(events) > 150 {
				checkNoWorld(t, "too many events", impl.RunWorld(c, events), impl.ErrMany)
				continue
			}
			got := impl.RunWorld(c, events)
			want, _ := plainWorld(c, events)
			checkSameWorlds(t, fmt.Sprint(c, ", odd list ", i), got.World, want)
			if got.Code != impl.OK {
				t.Fatalf("of %v and the odd list %d the code is %d", c, i, got.Code)
			}
		}
	}
}

func TestSameIsAskedOfAny(t *testing.T) {
	nodes := oddNodes()
	for _, n := range nodes {
		if !impl.SameNodes(n, n) || impl.SameNodes(n, impl.Node{Clock: 99}) || impl.SameNodes(impl.Node{Clock: 99}, n) {
			t.Fatal("a node is not told apart:", n.Clock)
		}
	}
	for _, n := range oddNumbers() {
		odd := impl.Message{Kind: n, From: n, To: n, Id: n, Marks: []impl.Mark{mark(n, n)}}
		w := impl.World{Nodes: nodes, Flights: []impl.Message{odd}, Codes: []int64{n}}
		if !impl.SameMessages(odd, odd) || impl.SameMessages(odd, impl.Message{}) || !impl.SameWorlds(w, w) || impl.SameWorlds(w, impl.World{}) {
			t.Fatal("what has", n, "is not told apart")
		}
	}
}

func TestEventsAreNotChanged(t *testing.T) {
	behind := []impl.Event{nodeEvent(impl.EvTick, 1), {Keep: math.MaxInt64}}
	for _, events := range oddEventLists() {
		// What lies in memory behind the argument is not touched, either.
		room := slices.Concat(events, behind)
		kept := slices.Clone(room)
		for _, c := range wholeConfigs() {
			impl.RunWorld(c, room[:len(events)])
		}
		if !slices.Equal(room, kept) {
			t.Fatalf("a list of %d events was changed", len(events))
		}
	}
}

func TestNodesAndWorldsAreNotChanged(t *testing.T) {
	for _, n := range oddNodes() {
		kept := fmt.Sprint(n)
		for self := range int64(5) {
			impl.MarksOf(n, self)
		}
		impl.SameNodes(n, n)
		if fmt.Sprint(n) != kept {
			t.Fatal("a node was changed:", n)
		}
	}
	for _, w := range someWorlds() {
		kept := worldLines(w)
		for _, other := range someWorlds() {
			impl.SameWorlds(w, other)
			impl.SameWorlds(other, w)
		}
		if !slices.Equal(worldLines(w), kept) {
			t.Fatal("a world was changed:", w)
		}
	}
}

func TestWorldsHangOnArgumentsAlone(t *testing.T) {
	lists := oddEventLists()
	configs := wholeConfigs()
	first := map[int]impl.WorldResult{}
	for i, events := range lists {
		first[i] = impl.RunWorld(configs[i%10], events)
	}
	var all sync.WaitGroup
	for range 4 {
		all.Go(func() {
			for i := len(lists) - 1; i >= 0; i-- {
				// Other memory, with other room behind it, in another order.
				same := append(make([]impl.Event, 0, len(lists[i])+i%5), lists[i]...)
				if again := impl.RunWorld(configs[i%10], same); !reflect.DeepEqual(first[i], again) {
					t.Errorf("the odd list %d is answered in two ways", i)
				}
			}
		})
	}
	all.Wait()
	if !reflect.DeepEqual(impl.RunWorld(twoNodes(), nil), impl.RunWorld(twoNodes(), []impl.Event{})) {
		t.Error("nil and an empty list are answered in two ways")
	}
	for _, n := range oddNodes() {
		if a, b := impl.MarksOf(n, 1), impl.MarksOf(n, 1); !reflect.DeepEqual(a, b) {
			t.Errorf("marks are told in two ways: %v and %v", a, b)
		}
	}
}

// span is where a list lies in memory, with the room behind it.
type span struct {
	from uintptr
	to   uintptr
}

// spansOf are those of all lists that a value has.
func spansOf(v reflect.Value) []span {
	var spans []span
	switch v.Kind() {
	case reflect.Struct:
		for i := range v.NumField() {
			spans = append(spans, spansOf(v.Field(i))...)
		}
	case reflect.Slice:
		if v.Cap() > 0 {
			from := v.Pointer()
			spans = append(spans, span{from, from + uintptr(v.Cap())*v.Type().Elem().Size()})
		}
		for i := range v.Len() {
			spans = append(spans, spansOf(v.Index(i))...)
		}
	}
	return spans
}

// checkApart asks that no two of these lists share memory.
func checkApart(t *testing.T, what string, spans []span) {
	t.Helper()
	slices.SortFunc(spans, func(a span, b span) int { return int(a.from) - int(b.from) })
	for i := 1; i < len(spans); i++ {
		if spans[i].from < spans[i-1].to {
			t.Fatal(what + " share memory")
		}
	}
}

// spoilWorld writes over all that a world has, with the room behind it.
func spoilWorld(v reflect.Value) {
	switch v.Kind() {
	case reflect.Struct:
		for i := range v.NumField() {
			spoilWorld(v.Field(i))
		}
	case reflect.Slice:
		v.SetLen(v.Cap())
		for i := range v.Len() {
			spoilWorld(v.Index(i))
		}
	case reflect.Int64:
		v.SetInt(-5)
	case reflect.Uint8:
		v.SetUint(5)
	}
}

func TestWorldsAreNewMemory(t *testing.T) {
	copied := slices.Concat(ticks(0, 1), ticks(1, 2), []impl.Event{writeEvent(0, 0, 5, 7), flightEvent(impl.EvCopy, 0), flightEvent(impl.EvCopy, 0), flightEvent(impl.EvCopy, 1)}, ticks(0, 1), []impl.Event{flightEvent(impl.EvCopy, 3), flightEvent(impl.EvCome, 0)})
	for _, events := range append(oddEventLists(), copied) {
		for _, c := range wholeConfigs() {
			if len(events) > 150 {
				continue
			}
			want, _ := plainWorld(c, events)
			got, kept := impl.RunWorld(c, events), impl.RunWorld(c, events)
			spans := slices.Concat(spansOf(reflect.ValueOf(got)), spansOf(reflect.ValueOf(kept)), spansOf(reflect.ValueOf(slices.Clip(events))))
			checkApart(t, "lists of one answer, of two, or of the events", spans)
			spoilWorld(reflect.ValueOf(&got).Elem())
			checkSameWorlds(t, "one answer was spoiled", kept.World, want)
			checkSameWorlds(t, "told again", impl.RunWorld(c, events).World, want)
		}
	}
}

func TestToldMarksAreNewMemory(t *testing.T) {
	n := impl.Node{Members: []impl.Member{member(1, 2, 3), member(2, 4, 5), member(3, 6, 7)}, State: impl.State{Life: 9}}
	for self := range int64(3) {
		want := plainMarks(n, self)
		got, kept := impl.MarksOf(n, self).Marks, impl.MarksOf(n, self).Marks
		spoilMarks(got)
		if !slices.Equal(kept, want) {
			t.Fatal("two answers share memory")
		}
		if again := impl.MarksOf(n, self).Marks; !slices.Equal(again, want) {
			t.Fatal("the answer is memory that is kept:", again)
		}
	}
}
