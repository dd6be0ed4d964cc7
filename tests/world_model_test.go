package tests

import (
	"fmt"
	"math/rand"
	"slices"
	"testing"

	"loop.example/g00791/impl"
)

// plainRun is a world told as the document writes it, without the program: an
// answer to hold the program's against. It counts what it met.
type plainRun struct {
	c   impl.Config
	w   impl.World
	met map[string]int
}

func plainConfigFault(c impl.Config) int64 {
	if c.Nodes < 1 || c.Nodes > 4 || c.Copies < 1 || c.Copies > c.Nodes {
		return impl.ErrRange
	}
	return impl.OK
}

func plainEventFault(e impl.Event) int64 {
	hasNode := e.Kind == 1 || e.Kind == 2 || e.Kind == 6 || e.Kind == 7
	hasPlace := e.Kind == 3 || e.Kind == 4 || e.Kind == 5
	hasTorn := e.Kind == 1 || e.Kind == 3
	if !hasNode && !hasPlace ||
		!hasNode && e.Node != 0 ||
		!hasPlace && e.N != 0 ||
		e.Kind != 1 && (e.Series != 0 || e.Time != 0 || e.Value != 0) ||
		!hasTorn && e.Torn ||
		!e.Torn && e.Keep != 0 {
		return impl.ErrForm
	}
	if e.Node < 0 || e.Node > 3 || e.N < 0 || e.N > 39 || e.Keep < 0 {
		return impl.ErrRange
	}
	return plainSampleFault(impl.Sample{Series: e.Series, Time: e.Time, Value: e.Value})
}

// plainMembers are those of a node at first.
func plainMembers(nodes int64, since int64) []impl.Member {
	return slices.Repeat([]impl.Member{member(1, 0, since)}, int(nodes))
}

func plainMarks(n impl.Node, self int64) []impl.Mark {
	var marks []impl.Mark
	for _, m := range n.Members {
		marks = append(marks, m.Mark)
	}
	marks[self] = mark(1, n.State.Life)
	return marks
}

// plainWorld is what comes of events where the call has no code, and what was
// met on the way.
func plainWorld(c impl.Config, events []impl.Event) (impl.World, map[string]int) {
	p := plainRun{c: c, met: map[string]int{}}
	for self := range c.Nodes {
		p.w.Nodes = append(p.w.Nodes, impl.Node{Up: true, Members: plainMembers(c.Nodes, 0), Probe: self, Wait: -1})
	}
	for i, e := range events {
		code := p.step(e, int64(i))
		p.met[fmt.Sprint("code ", code, " of ", e.Kind)]++
		p.w.Codes = append(p.w.Codes, code)
	}
	return p.w, p.met
}

func (p *plainRun) step(e impl.Event, number int64) int64 {
	w := &p.w
	ofFlight := e.Kind == 3 || e.Kind == 4 || e.Kind == 5
	switch {
	case plainEventFault(e) != impl.OK:
		return plainEventFault(e)
	case ofFlight && e.N >= int64(len(w.Flights)), !ofFlight && e.Node >= p.c.Nodes:
		return impl.ErrNone
	case !ofFlight && w.Nodes[e.Node].Up == (e.Kind == 7):
		return impl.ErrState
	}
	switch e.Kind {
	case 1:
		return p.written(e, number)
	case 2:
		p.tick(e.Node)
	case 5:
		if len(w.Flights) == 40 {
			return impl.ErrFull
		}
		w.Flights = append(w.Flights, w.Flights[e.N])
	case 6:
		w.Nodes[e.Node].Up = false
	case 7:
		p.comeUp(&w.Nodes[e.Node], e.Node)
	default:
		m := w.Flights[e.N]
		w.Flights = slices.Concat(w.Flights[:e.N], w.Flights[e.N+1:])
		if e.Kind == 3 && w.Nodes[m.To].Up {
			p.come(m, e)
		} else if e.Kind == 3 {
			p.met["lost, as it is down"]++
		}
	}
	return impl.OK
}

// put tells whether it is not torn.
func (p *plainRun) put(n *impl.Node, e impl.Event, records ...impl.Record) bool {
	bytes := diskOf(records...)
	if e.Torn {
		n.Up = false
		kept := min(len(bytes), int(min(e.Keep, 1000)))
		p.met[fmt.Sprint("torn ", e.Kind, ": some of it ", kept > 0, ", all of it ", kept == len(bytes))]++
		n.Disk = slices.Concat(n.Disk, bytes[:kept])
		return false
	}
	n.Disk = slices.Concat(n.Disk, bytes)
	for _, r := range records {
		n.State, _ = plainApply(n.State, r)
	}
	return true
}

func (p *plainRun) send(m impl.Message) {
	if len(p.w.Flights) == 40 {
		p.met[fmt.Sprint("not sent ", m.Kind)]++
		return
	}
	p.w.Flights = append(p.w.Flights, m)
}

func (p *plainRun) written(e impl.Event, number int64) int64 {
	n := &p.w.Nodes[e.Node]
	x := impl.Sample{Series: e.Series, Time: e.Time, Id: number, Value: e.Value}
	var records []impl.Record
	others := 0
	for _, home := range plainHomes(p.c.Nodes, p.c.Copies, e.Series) {
		if home == e.Node {
			records = append(records, impl.Record{Kind: 1, Sample: x})
		} else {
			records = append(records, impl.Record{Kind: 2, Node: home, Sample: x})
			others++
		}
	}
	if len(n.State.Hints) > 8-others {
		return impl.ErrFull
	}
	if p.put(n, e, records...) {
		p.w.Answered = append(p.w.Answered, x)
	}
	return impl.OK
}

func (p *plainRun) tick(self int64) {
	n := &p.w.Nodes[self]
	n.Clock++
	n.Members = slices.Clone(n.Members)
	for at, m := range n.Members {
		if int64(at) != self && m.Mark.State == 2 && m.Since+4 <= n.Clock {
			p.met["dies"]++
			n.Members[at] = member(3, m.Mark.Life, n.Clock)
		}
	}
	if n.Wait != -1 && n.Members[n.Wait].Mark.State == 1 {
		p.met["suspect"]++
		n.Members[n.Wait] = member(2, n.Members[n.Wait].Mark.Life, n.Clock)
	}
	if p.c.Nodes > 1 {
		others := slices.DeleteFunc([]int64{0, 1, 2, 3}[:p.c.Nodes], func(at int64) bool { return at == self })
		next := others[0]
		for _, at := range slices.Backward(others) {
			if at > n.Probe {
				next = at
			}
		}
		n.Probe, n.Wait = next, next
		p.send(impl.Message{Kind: 3, From: self, To: next, Marks: plainMarks(*n, self)})
	}
	for _, h := range plainDue(n.State.Hints, n.Clock) {
		p.met[fmt.Sprint("sent with tries ", h.Tries)]++
		p.send(impl.Message{Kind: 1, From: self, To: h.Node, Sample: h.Sample})
		at := plainHintPlace(n.State.Hints, h.Node, h.Sample.Id)
		n.State.Hints = withHint(n.State.Hints, at, plainSent(h, n.Clock))
	}
}

func (p *plainRun) come(m impl.Message, e impl.Event) {
	n := &p.w.Nodes[m.To]
	var records []impl.Record
	switch m.Kind {
	case 1:
		if plainPlace(n.State.Store, m.Sample) < 0 {
			records = append(records, impl.Record{Kind: 1, Sample: m.Sample})
		}
	case 2:
		if plainHintPlace(n.State.Hints, m.From, m.Id) >= 0 {
			records = append(records, impl.Record{Kind: 3, Node: m.From, Number: m.Id})
		}
	default:
		if own := m.Marks[m.To]; own.State != 1 && own.Life >= n.State.Life {
			records = append(records, impl.Record{Kind: 4, Number: own.Life + 1})
		}
	}
	p.met[fmt.Sprint("comes ", m.Kind, ", torn ", e.Torn, ", writes ", len(records) > 0)]++
	if !p.put(n, e, records...) {
		return
	}
	if m.Kind == 1 {
		p.send(impl.Message{Kind: 2, From: m.To, To: m.From, Id: m.Sample.Id})
	}
	if m.Kind >= 3 {
		p.hear(n, m)
	}
	if m.Kind == 3 {
		p.send(impl.Message{Kind: 4, From: m.To, To: m.From, Marks: plainMarks(*n, m.To)})
	}
	if m.Kind == 4 && n.Wait == m.From {
		n.Wait = -1
	}
}

func (p *plainRun) hear(n *impl.Node, m impl.Message) {
	n.Members = slices.Clone(n.Members)
	for at, heard := range m.Marks {
		if int64(at) != m.To && plainStronger(heard, n.Members[at].Mark) {
			p.met[fmt.Sprint("heard ", heard.State, " of the sender ", int64(at) == m.From)]++
			n.Members[at] = impl.Member{Mark: heard, Since: n.Clock}
		}
	}
}

func (p *plainRun) comeUp(n *impl.Node, self int64) {
	said := plainSaid(n.Disk)
	whole := diskOf(said...)
	p.met[fmt.Sprint("up, cut ", len(whole) < len(n.Disk))]++
	n.Disk, n.State = whole, impl.State{}
	for _, r := range said {
		n.State, _ = plainApply(n.State, r)
	}
	n.Members, n.Probe, n.Wait, n.Up = plainMembers(p.c.Nodes, n.Clock), self, -1, true
	p.put(n, impl.Event{}, impl.Record{Kind: 4, Number: n.State.Life + 1})
}

// worldLines are all that a world has, line by line; nil and an empty list are
// one line.
func worldLines(w impl.World) []string {
	lines := []string{fmt.Sprint("codes ", w.Codes), fmt.Sprint("answered ", w.Answered)}
	for i, n := range w.Nodes {
		lines = append(lines, fmt.Sprintf("node %d %+v", i, n))
	}
	for i, m := range w.Flights {
		lines = append(lines, fmt.Sprintf("flight %d %+v", i, m))
	}
	return lines
}

// checkSameWorlds tells the first line that is not the same.
func checkSameWorlds(t *testing.T, what string, got impl.World, want impl.World) {
	t.Helper()
	a, b := worldLines(got), worldLines(want)
	for i := range max(len(a), len(b)) {
		if i >= len(a) || i >= len(b) || a[i] != b[i] {
			t.Fatalf("%s: the worlds are not the same:\n%v\n%v", what, a[min(i, len(a)):min(i+1, len(a))], b[min(i, len(b)):min(i+1, len(b))])
		}
	}
}

// ranWorld is what comes of events without a code, held against what the model
// tells.
func ranWorld(t *testing.T, c impl.Config, events ...impl.Event) impl.World {
	t.Helper()
	got := impl.RunWorld(c, events)
	if got.Code != impl.OK {
		t.Fatalf("RunWorld of %v and %d events has the code %d", c, len(events), got.Code)
	}
	want, _ := plainWorld(c, events)
	checkSameWorlds(t, fmt.Sprint(c, events), got.World, want)
	return got.World
}

func checkNoWorld(t *testing.T, what string, got impl.WorldResult, code int64) {
	t.Helper()
	if got.Code != code || len(worldLines(got.World)) != 2 || len(got.World.Codes) != 0 || len(got.World.Answered) != 0 {
		t.Errorf("%s: the code %d and %v; want the code %d alone", what, got.Code, got.World, code)
	}
}

func writeEvent(node int64, series int64, time int64, value int64) impl.Event {
	return impl.Event{Kind: impl.EvWrite, Node: node, Series: series, Time: time, Value: value}
}

func nodeEvent(kind int64, node int64) impl.Event {
	return impl.Event{Kind: kind, Node: node}
}

func flightEvent(kind int64, n int64) impl.Event {
	return impl.Event{Kind: kind, N: n}
}

func tornEvent(e impl.Event, keep int64) impl.Event {
	e.Torn, e.Keep = true, keep
	return e
}

// mood is how often events of each kind come, and how often one is torn or
// has a fault, each of a hundred.
type mood struct {
	kinds [7]int
	torn  int
	fault int
}

func moods() []mood {
	return []mood{
		{kinds: [7]int{15, 25, 50, 2, 3, 2, 3}, torn: 5, fault: 2},
		{kinds: [7]int{5, 35, 50, 4, 3, 1, 2}, torn: 4},
		// Little comes: what is owed and what flies grows.
		{kinds: [7]int{25, 55, 5, 2, 5, 3, 5}, torn: 3},
		{kinds: [7]int{5, 35, 20, 0, 40, 0, 0}},
		// Much is torn.
		{kinds: [7]int{20, 25, 30, 3, 5, 2, 15}, torn: 40, fault: 1},
		{kinds: [7]int{14, 14, 14, 14, 14, 14, 16}, torn: 20, fault: 25},
	}
}

// moodKind is a kind of event, as often as the mood has it.
func moodKind(r *rand.Rand, m mood) int64 {
	at := r.Intn(100)
	for i, often := range m.kinds {
		if at < often {
			return int64(i + 1)
		}
		at -= often
	}
	return impl.EvUp
}

func moodEvent(r *rand.Rand, m mood, nodes int64) impl.Event {
	e := impl.Event{Kind: moodKind(r, m)}
	switch e.Kind {
	case impl.EvWrite:
		e = writeEvent(r.Int63n(nodes), r.Int63n(10), r.Int63n(1000), r.Int63n(2001)-1000)
	case impl.EvCome, impl.EvLose, impl.EvCopy:
		e.N = r.Int63n(1 + r.Int63n(6))
	default:
		e.Node = r.Int63n(nodes)
	}
	if (e.Kind == impl.EvWrite || e.Kind == impl.EvCome) && r.Intn(100) < m.torn {
		e = tornEvent(e, r.Int63n(60))
	}
	if r.Intn(100) < m.fault {
		e = withEventField(e, r.Intn(8), r.Int63n(9)-2)
	}
	return e
}

// moodEvents are as many events of one mood.
func moodEvents(r *rand.Rand, m mood, nodes int64, size int) []impl.Event {
	var events []impl.Event
	for range size {
		events = append(events, moodEvent(r, m, nodes))
	}
	return events
}

// wholeConfigs are all there are.
func wholeConfigs() []impl.Config {
	var list []impl.Config
	for nodes := int64(1); nodes <= 4; nodes++ {
		for copies := int64(1); copies <= nodes; copies++ {
			list = append(list, impl.Config{Nodes: nodes, Copies: copies})
		}
	}
	return list
}

// withEventField is the event with another number in the field that i counts;
// it is torn where that of Torn is odd.
func withEventField(e impl.Event, i int, n int64) impl.Event {
	switch i {
	case 0:
		e.Kind = n
	case 1:
		e.Node = n
	case 2:
		e.N = n
	case 3:
		e.Series = n
	case 4:
		e.Time = n
	case 5:
		e.Value = n
	case 6:
		e.Torn = n%2 != 0
	case 7:
		e.Keep = n
	}
	return e
}
