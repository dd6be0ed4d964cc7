package tests

import (
	"fmt"
	"slices"
	"testing"

	"loop.example/g00791/impl"
)

// someMessages are no two alike; each one but the first has one field that is
// not as in the first.
func someMessages() []impl.Message {
	whole := impl.Message{Kind: 1, From: 2, To: 3, Sample: impl.Sample{Series: 1, Time: 2, Id: 3, Value: 4}, Id: 5, Marks: []impl.Mark{mark(1, 2), mark(3, 4)}}
	list := slices.Repeat([]impl.Message{whole}, 14)
	list[1].Kind = 2
	list[2].From = 3
	list[3].To = 2
	list[4].Id = 6
	for i := range 4 {
		list[5+i].Sample = withField(whole.Sample, i, 9)
	}
	list[9].Marks = nil
	list[10].Marks = whole.Marks[:1]
	list[11].Marks = []impl.Mark{mark(1, 2), mark(3, 5)}
	list[12].Marks = []impl.Mark{mark(3, 4), mark(1, 2)}
	list[13].Marks = []impl.Mark{mark(1, 2), mark(3, 4), mark(0, 0)}
	return append(list, impl.Message{}, impl.Message{Kind: -1, Marks: make([]impl.Mark, 9)})
}

// someNodes are told as someMessages.
func someNodes() []impl.Node {
	whole := impl.Node{Up: true, Disk: []byte{1, 2}, State: wholeState(), Members: []impl.Member{member(1, 2, 3), member(2, 3, 4)}, Clock: 5, Probe: 1, Wait: -1}
	list := slices.Repeat([]impl.Node{whole}, 14)
	list[1].Up = false
	list[2].Disk = []byte{1, 3}
	list[3].Disk = []byte{1}
	list[4].Disk = nil
	list[5].State.Life++
	list[6].State.Store = without(whole.State.Store, 0)
	list[7].State.Hints = withoutHint(whole.State.Hints, 0)
	list[8].Members = []impl.Member{member(1, 2, 3), member(2, 3, 5)}
	list[9].Members = whole.Members[:1]
	list[10].Members = nil
	list[11].Clock = 6
	list[12].Probe = 0
	list[13].Wait = 0
	return append(list, impl.Node{}, impl.Node{Wait: -1, Members: make([]impl.Member, 9)})
}

// someWorlds are told as someMessages.
func someWorlds() []impl.World {
	nodes, flights := someNodes(), someMessages()
	whole := impl.World{Nodes: nodes[:2], Flights: flights[:3], Answered: longStore(2), Codes: []int64{0, 4}}
	list := slices.Repeat([]impl.World{whole}, 13)
	list[1].Nodes = nodes[:1]
	list[2].Nodes = []impl.Node{nodes[0], nodes[2]}
	list[3].Nodes = []impl.Node{nodes[1], nodes[0]}
	list[4].Nodes = nil
	list[5].Flights = flights[:2]
	list[6].Flights = []impl.Message{flights[0], flights[2], flights[1]}
	list[7].Flights = nil
	list[8].Answered = longStore(1)
	list[9].Answered = nil
	list[10].Answered = []impl.Sample{longStore(2)[1], longStore(2)[0]}
	list[11].Codes = []int64{0, 3}
	list[12].Codes = nil
	return append(list, impl.World{}, impl.World{Nodes: make([]impl.Node, 9), Codes: []int64{-1}})
}

// checkSame asks of any two whether they are the same: no two of list are, but
// each one is the same as a twin in other memory.
func checkSame[T any](t *testing.T, what string, list []T, twins []T, same func(a T, b T) bool) {
	t.Helper()
	for i, a := range list {
		for j, b := range twins {
			if got := same(a, b); got != (i == j) {
				t.Errorf("%s %d and %d are the same: %v", what, i, j, got)
			}
		}
	}
}

func TestSameMessages(t *testing.T) {
	checkSame(t, "messages", someMessages(), someMessages(), impl.SameMessages)
	if !impl.SameMessages(impl.Message{Marks: []impl.Mark{}}, impl.Message{}) {
		t.Error("nil and an empty list are two")
	}
}

func TestSameNodes(t *testing.T) {
	checkSame(t, "nodes", someNodes(), someNodes(), impl.SameNodes)
	empty := impl.Node{Disk: []byte{}, Members: []impl.Member{}, State: impl.State{Store: []impl.Sample{}, Hints: []impl.Hint{}}}
	if !impl.SameNodes(empty, impl.Node{}) || !impl.SameNodes(impl.Node{}, empty) {
		t.Error("nil and an empty list are two")
	}
}

func TestSameWorlds(t *testing.T) {
	checkSame(t, "worlds", someWorlds(), someWorlds(), impl.SameWorlds)
	empty := impl.World{Nodes: []impl.Node{}, Flights: []impl.Message{}, Answered: []impl.Sample{}, Codes: []int64{}}
	if !impl.SameWorlds(empty, impl.World{}) || !impl.SameWorlds(impl.World{}, empty) {
		t.Error("nil and an empty list are two")
	}
	for i, w := range someWorlds() {
		for j, other := range someWorlds() {
			if (i == j) != (fmt.Sprint(w) == fmt.Sprint(other)) {
				t.Fatal("the tests have two worlds that are alike:", i, j)
			}
		}
	}
}
