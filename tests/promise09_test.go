package tests

import (
	"fmt"
	"math/rand"
	"slices"
	"testing"

	"loop.example/g00791/impl"
)

// Promise 9: what was done does not hang on what comes later; a disk never says
// less than it said; a life never goes down.

// isAheadOf tells whether list begins with all of first.
func isAheadOf[T comparable](first []T, list []T) bool {
	return len(first) <= len(list) && slices.Equal(first, list[:len(first)])
}

// eachWorld goes through worlds of all moods, event by event: it has the world
// behind each event, at the place 0 that of no events.
func eachWorld(t *testing.T, seed int64, count int, ask func(c impl.Config, events []impl.Event, worlds []impl.World)) {
	t.Helper()
	r := rand.New(rand.NewSource(seed))
	for i := range count {
		c := wholeConfigs()[r.Intn(10)]
		events := moodEvents(r, moods()[i%len(moods())], c.Nodes, 60+r.Intn(91))
		var worlds []impl.World
		for size := range len(events) + 1 {
			got := impl.RunWorld(c, events[:size])
			if got.Code != impl.OK {
				t.Fatalf("RunWorld(%v, %v) has the code %d", c, events[:size], got.Code)
			}
			worlds = append(worlds, got.World)
		}
		ask(c, events, worlds)
	}
}

func TestWhatWasDoneDoesNotHangOnWhatComesLater(t *testing.T) {
	r := rand.New(rand.NewSource(9))
	eachWorld(t, 91, 60, func(c impl.Config, events []impl.Event, worlds []impl.World) {
		last := worlds[len(events)]
		for size, w := range worlds {
			if len(w.Codes) != size || !isAheadOf(w.Codes, last.Codes) || !isAheadOf(w.Answered, last.Answered) {
				t.Fatalf("%v: behind %d of %v it has %v and %v, at the end %v and %v", c, size, events, w.Codes, w.Answered, last.Codes, last.Answered)
			}
		}
		// Other events come then.
		for range 5 {
			size := r.Intn(len(events))
			later := slices.Concat(events[:size], moodEvents(r, moods()[r.Intn(len(moods()))], c.Nodes, r.Intn(151-size)))
			other := impl.RunWorld(c, later).World
			if !isAheadOf(worlds[size].Codes, other.Codes) || !isAheadOf(worlds[size].Answered, other.Answered) {
				t.Fatalf("%v, %v: behind the first %d it has %v and %v, with others behind them %v and %v", c, later, size, worlds[size].Codes, worlds[size].Answered, other.Codes, other.Answered)
			}
		}
	})
}

// A world goes on from where it was: what an event with a code does is nothing,
// and what an event does has one node, or what flies, at most.
func TestEventsTurnOneNodeAtMost(t *testing.T) {
	eachWorld(t, 92, 60, func(c impl.Config, events []impl.Event, worlds []impl.World) {
		for i, e := range events {
			ahead, behind := worlds[i], worlds[i+1]
			turned := 0
			for at := range ahead.Nodes {
				if !impl.SameNodes(ahead.Nodes[at], behind.Nodes[at]) {
					turned++
				}
			}
			if turned > 1 {
				t.Fatalf("%v turns %d nodes", e, turned)
			}
			if code := behind.Codes[i]; code != impl.OK {
				ahead.Codes = append(slices.Clone(ahead.Codes), code)
				checkSameWorlds(t, fmt.Sprint(e, " with the code ", code), behind, ahead)
			}
		}
	})
}

func TestDisksNeverSayLess(t *testing.T) {
	met := map[bool]int{}
	eachWorld(t, 93, 60, func(c impl.Config, events []impl.Event, worlds []impl.World) {
		for at := range c.Nodes {
			var said []impl.Record
			for i, w := range worlds {
				next := impl.RecoverDisk(w.Nodes[at].Disk)
				if next.Code != impl.OK || !isAheadOf(said, next.Records) {
					t.Fatalf("%v: behind %d of %v the disk of %d says %v, and said %v", c, i, events, at, next, said)
				}
				met[len(next.Records) > len(said)]++
				said = next.Records
			}
			if want := plainSaid(worlds[len(events)].Nodes[at].Disk); !slices.Equal(said, want) {
				t.Fatalf("at the end the disk of %d says %v; want %v", at, said, want)
			}
		}
	})
	if met[true] < 500 || met[false] < 500 {
		t.Error("not all is met:", met)
	}
}

// Wherever the bytes of an event are torn, what the disk said it still says,
// and behind that the whole records of the event.
func TestTornDisksNeverSayLess(t *testing.T) {
	met := map[int]int{}
	eachWorld(t, 94, 30, func(c impl.Config, events []impl.Event, worlds []impl.World) {
		// One event more than that comes behind them.
		for i, e := range events[:min(len(events), 149)] {
			if e.Kind != impl.EvWrite && e.Kind != impl.EvCome || e.Torn || worlds[i+1].Codes[i] != impl.OK {
				continue
			}
			self := e.Node
			if e.Kind == impl.EvCome {
				self = worlds[i].Flights[e.N].To
			}
			if !worlds[i].Nodes[self].Up {
				continue
			}
			was, whole := worlds[i].Nodes[self].Disk, worlds[i+1].Nodes[self].Disk
			for keep := range int64(len(whole) - len(was) + 2) {
				torn := slices.Concat(events[:i], []impl.Event{tornEvent(e, keep)})
				n := impl.RunWorld(c, torn).World.Nodes[self]
				if !slices.Equal(n.Disk, whole[:min(len(was)+int(keep), len(whole))]) {
					t.Fatalf("%v, torn at %d: the disk is %v; want the first bytes of %v", e, keep, n.Disk, whole)
				}
				up := impl.RunWorld(c, append(torn, nodeEvent(impl.EvUp, self))).World.Nodes[self]
				before, now := plainSaid(was), plainSaid(up.Disk)
				if !isAheadOf(before, now) || !isAheadOf(now[:len(now)-1], plainSaid(whole)) {
					t.Fatalf("%v, torn at %d and up again: it says %v, and said %v", e, keep, now, before)
				}
				met[len(now)-len(before)]++
			}
		}
	})
	if met[1] < 100 || met[2] < 100 || met[3] < 100 {
		t.Error("not all is met:", met)
	}
}

// What a node that is up knows is what its disk says: only how often a hint was
// sent, and when it is due, stands on no disk.
func TestWhatANodeKnowsItsDiskSays(t *testing.T) {
	eachWorld(t, 95, 60, func(c impl.Config, events []impl.Event, worlds []impl.World) {
		for i, w := range worlds {
			for at, n := range w.Nodes {
				said := impl.RecoverDisk(n.Disk)
				known := n.State
				known.Hints = nil
				for _, h := range n.State.Hints {
					known.Hints = append(known.Hints, impl.Hint{Node: h.Node, Sample: h.Sample})
				}
				if n.Up && (!isState(known, said.State) || said.Size != int64(len(n.Disk))) {
					t.Fatalf("%v: behind %d of %v node %d knows %v; its disk says %v", c, i, events, at, known, said)
				}
			}
		}
	})
}

func TestLivesOfNodesNeverGoDown(t *testing.T) {
	eachWorld(t, 96, 60, func(c impl.Config, events []impl.Event, worlds []impl.World) {
		for i, e := range events {
			for at, n := range worlds[i].Nodes {
				next := worlds[i+1].Nodes[at]
				said, nextSaid := impl.RecoverDisk(n.Disk).State.Life, impl.RecoverDisk(next.Disk).State.Life
				if next.State.Life < n.State.Life || nextSaid < said || nextSaid < next.State.Life {
					t.Fatalf("%v: of node %d the life %d becomes %d, and that on its disk, %d, becomes %d", e, at, n.State.Life, next.State.Life, said, nextSaid)
				}
				// Who comes again has another life than ahead of that.
				if !n.Up && next.Up && (next.State.Life != said+1 || next.State.Life <= n.State.Life) {
					t.Fatalf("%v: of node %d the life %d comes up as %d", e, at, n.State.Life, next.State.Life)
				}
			}
		}
	})
}

// Nobody hears of a life that somebody has not: only who it is of says a new
// one, and has it on its disk by then.
func TestLivesAreOnTheDiskOfWhoSaysThem(t *testing.T) {
	met := map[bool]int{}
	eachWorld(t, 97, 60, func(c impl.Config, events []impl.Event, worlds []impl.World) {
		w := worlds[len(events)]
		for at := range w.Nodes {
			life := impl.RecoverDisk(w.Nodes[at].Disk).State.Life
			heard := []impl.Mark{}
			for i, n := range w.Nodes {
				if i != at {
					heard = append(heard, n.Members[at].Mark)
				}
			}
			for _, m := range w.Flights {
				if len(m.Marks) > 0 {
					heard = append(heard, m.Marks[at])
				}
			}
			for _, m := range heard {
				if m.Life > life {
					t.Fatalf("%v, %v: of node %d %v is heard; its life is %d", c, events, at, m, life)
				}
				met[m.Life > 0]++
			}
		}
	})
	if met[true] < 100 || met[false] < 100 {
		t.Error("not all is met:", met)
	}
}
