package tests

import (
	"math"
	"slices"
	"testing"

	"loop.example/g00791/impl"
)

// longHints are so many hints, of Ids that are each there for two nodes.
func longHints(size int) []impl.Hint {
	var hints []impl.Hint
	for i := range int64(size) {
		hints = append(hints, impl.Hint{
			Node:   i % 4,
			Sample: impl.Sample{Series: i % 10, Time: 7 * i, Id: 9000 - i/2, Value: 100 - i},
			Tries:  i % 5,
			Due:    10 * i,
		})
	}
	return hints
}

// withHint is a list with another hint at a place, in memory of its own.
func withHint(hints []impl.Hint, at int, h impl.Hint) []impl.Hint {
	hints = slices.Clone(hints)
	hints[at] = h
	return hints
}

func withoutHint(hints []impl.Hint, at int) []impl.Hint {
	return slices.Concat(hints[:at], hints[at+1:])
}

// withHintField is the hint with another number in the field that i counts;
// the first four are those of its sample.
func withHintField(h impl.Hint, i int, n int64) impl.Hint {
	switch i {
	case 4:
		h.Node = n
	case 5:
		h.Tries = n
	case 6:
		h.Due = n
	default:
		h.Sample = withField(h.Sample, i, n)
	}
	return h
}

// plainHintPlace tells where the hint for this node with this Id is, or -1.
func plainHintPlace(hints []impl.Hint, node int64, id int64) int {
	for i, h := range hints {
		if h.Node == node && h.Sample.Id == id {
			return i
		}
	}
	return -1
}

// plainHintsFault tells of hints as the document writes it, each one held
// against all behind it.
func plainHintsFault(hints []impl.Hint) int64 {
	if len(hints) > 8 {
		return impl.ErrMany
	}
	for _, h := range hints {
		if plainSampleFault(h.Sample) != impl.OK || h.Node < 0 || h.Node > 3 || h.Tries < 0 || h.Tries > 4 || h.Due < 0 || h.Due > 200000 {
			return impl.ErrRange
		}
	}
	for i, h := range hints {
		if plainHintPlace(hints[i+1:], h.Node, h.Sample.Id) >= 0 {
			return impl.ErrTaken
		}
	}
	return impl.OK
}

type faultyHint struct {
	what  string
	hints []impl.Hint
	code  int64
}

// badHints have one field that leaves its bounds, or several.
func badHints() []impl.Hint {
	var list []impl.Hint
	for _, x := range faultySamples() {
		list = append(list, impl.Hint{Node: 1, Sample: x})
	}
	whole := []impl.Hint{{}, {Node: 3, Tries: 4, Due: 200000, Sample: impl.Sample{Series: 9, Time: 999, Id: 9999, Value: 1000}}}
	for _, h := range whole {
		for i, high := range []int64{3, 4, 200000} {
			for _, n := range []int64{-1, high + 1, high + 2, high + 1<<32, math.MinInt64, math.MinInt64 + 1, math.MaxInt64} {
				list = append(list, withHintField(h, 4+i, n))
			}
		}
	}
	return append(list,
		impl.Hint{Node: -1, Tries: -1, Due: -1},
		impl.Hint{Node: 4, Tries: 5, Due: 200001},
		impl.Hint{Node: 4, Sample: impl.Sample{Series: 10}},
		impl.Hint{Tries: 5, Due: 200001, Sample: impl.Sample{Value: -1001}},
	)
}

func faultyHints() []faultyHint {
	full := longHints(8)
	bad := impl.Hint{Node: 2, Sample: impl.Sample{Id: 10000}}
	late := impl.Hint{Node: 2, Sample: impl.Sample{Id: 17}, Due: 200001}
	list := []faultyHint{
		{"one too many", longHints(9), impl.ErrMany},
		{"one too many, all alike", make([]impl.Hint, 9), impl.ErrMany},
		{"one too many, the first one with a fault", withHint(longHints(9), 0, bad), impl.ErrMany},
		{"one too many, the last one with a fault", append(longHints(8), late), impl.ErrMany},
		{"many too many", make([]impl.Hint, 5000), impl.ErrMany},
		{"a fault at the front", withHint(full, 0, bad), impl.ErrRange},
		{"a fault between", withHint(full, 4, late), impl.ErrRange},
		{"a fault at the end", withHint(full, 7, bad), impl.ErrRange},
		{"a fault behind two that are alike", []impl.Hint{full[0], full[0], bad}, impl.ErrRange},
		{"a fault ahead of two that are alike", []impl.Hint{late, full[0], full[0]}, impl.ErrRange},
		{"one fault, twice", []impl.Hint{bad, bad}, impl.ErrRange},
		{"one twice", []impl.Hint{full[0], full[0]}, impl.ErrTaken},
		{"one twice at the end", withHint(full, 7, full[6]), impl.ErrTaken},
		{"one at both ends", withHint(full, 7, full[0]), impl.ErrTaken},
		{"all alike", make([]impl.Hint, 8), impl.ErrTaken},
	}
	// All else of two hints for one node with one Id can be told apart.
	for _, c := range [][2]int64{{0, 8}, {1, 998}, {3, -998}, {5, 2}, {6, 199998}} {
		other := withHintField(full[3], int(c[0]), c[1])
		list = append(list, faultyHint{"two that are alike but for one field", []impl.Hint{full[3], other}, impl.ErrTaken})
	}
	for _, h := range badHints() {
		list = append(list, faultyHint{"a fault alone", []impl.Hint{h}, impl.ErrRange})
	}
	return list
}

func checkHints(t *testing.T, what string, got impl.HintsResult, want []impl.Hint) {
	t.Helper()
	if got.Code != impl.OK || !slices.Equal(got.Hints, want) {
		t.Fatalf("%s: %v; want %v", what, got, want)
	}
}

func checkNoHints(t *testing.T, what string, got impl.HintsResult, code int64) {
	t.Helper()
	if got.Code != code || len(got.Hints) != 0 {
		t.Fatalf("%s: %v; want the code %d alone", what, got, code)
	}
}

func TestHintConstants(t *testing.T) {
	got := []int64{impl.MaxNodes, impl.MaxHints, impl.MaxTries, impl.MaxClock}
	if !slices.Equal(got, []int64{4, 8, 4, 100000}) {
		t.Error("the constants are", got)
	}
}

func TestBackoffOf(t *testing.T) {
	for tries, want := range []int64{1, 2, 4, 8, 16} {
		if got := impl.BackoffOf(int64(tries)); got != (impl.IntResult{Value: want}) {
			t.Errorf("BackoffOf(%d) = %v; want %d", tries, got, want)
		}
	}
	for _, tries := range []int64{-1, 5, 6, 62, 63, 64, 65, -64, 1 << 32, math.MinInt64, math.MaxInt64} {
		if got := impl.BackoffOf(tries); got != (impl.IntResult{Code: impl.ErrRange}) {
			t.Errorf("BackoffOf(%d) = %v; want ErrRange alone", tries, got)
		}
	}
}

func TestHintsFault(t *testing.T) {
	for size := range 9 {
		if got := impl.HintsFault(longHints(size)); got != impl.OK {
			t.Errorf("HintsFault of %d hints = %d; want none", size, got)
		}
	}
	x := impl.Sample{Series: 1, Time: 2, Id: 3, Value: 4}
	for _, hints := range [][]impl.Hint{
		nil,
		{},
		{{}},
		{{Node: 3, Sample: impl.Sample{Series: 9, Time: 999, Id: 9999, Value: -1000}, Tries: 4, Due: 200000}},
		// One Id for all nodes, and one node for many Ids.
		{{Node: 0, Sample: x}, {Node: 1, Sample: x}, {Node: 2, Sample: x}, {Node: 3, Sample: x}},
		{{Node: 2, Sample: x}, {Node: 2, Sample: withField(x, 2, 4)}, {Node: 2, Sample: withField(x, 2, 2)}},
		// Numbers that are alike where they stand for one another's field.
		{{Node: 1, Sample: impl.Sample{Id: 2}}, {Node: 2, Sample: impl.Sample{Id: 1}}},
		{{Node: 0, Sample: impl.Sample{Id: 10}}, {Node: 1, Sample: impl.Sample{Id: 0}}},
		// Neither the Due nor the Node has to rise.
		{{Node: 3, Due: 9}, {Node: 1, Due: 10}, {Node: 2, Due: 0}},
	} {
		if got := impl.HintsFault(hints); got != impl.OK {
			t.Errorf("HintsFault(%v) = %d; want none", hints, got)
		}
	}
	for _, c := range faultyHints() {
		if plainHintsFault(c.hints) != c.code {
			t.Fatal(c.what, "is told in two ways by the tests")
		}
		if got := impl.HintsFault(c.hints); got != c.code {
			t.Errorf("%s: HintsFault(%v) = %d; want %d", c.what, c.hints, got, c.code)
		}
	}
}

func TestFaultsOfHintsAreAskedFirst(t *testing.T) {
	whole := impl.Sample{Series: 1, Time: 2, Id: 3, Value: 4}
	for _, c := range faultyHints() {
		first := c.hints[0]
		for _, node := range []int64{-1, 0, 3, 4, first.Node} {
			for _, x := range []impl.Sample{whole, {Value: 1001}, first.Sample} {
				checkNoHints(t, c.what, impl.AddHint(c.hints, node, x), c.code)
			}
			for _, id := range []int64{-1, 3, 10000, first.Sample.Id} {
				checkNoHints(t, c.what, impl.DoneHint(c.hints, node, id), c.code)
				for _, now := range []int64{-1, 0, 100000, 100001} {
					checkNoHints(t, c.what, impl.SentHint(c.hints, node, id, now), c.code)
				}
			}
		}
		for _, now := range []int64{math.MinInt64, -1, 0, 200000, math.MaxInt64} {
			checkNoHints(t, c.what, impl.DueHints(c.hints, now), c.code)
		}
	}
}

func TestAddHint(t *testing.T) {
	x := impl.Sample{Series: 1, Time: 2, Id: 3, Value: 4}
	y := impl.Sample{Series: 9, Time: 999, Id: 9999, Value: -1000}
	sent := impl.Hint{Node: 2, Sample: x, Tries: 3, Due: 77}
	for node := range int64(4) {
		checkHints(t, "to nothing", impl.AddHint(nil, node, x), []impl.Hint{{Node: node, Sample: x}})
		checkHints(t, "to an empty list", impl.AddHint([]impl.Hint{}, node, y), []impl.Hint{{Node: node, Sample: y}})
		checkHints(t, "another id", impl.AddHint([]impl.Hint{sent}, node, y), []impl.Hint{sent, {Node: node, Sample: y}})
		if node != 2 {
			checkHints(t, "the same id for another node", impl.AddHint([]impl.Hint{sent}, node, x), []impl.Hint{sent, {Node: node, Sample: x}})
		}
	}
	checkHints(t, "all zero", impl.AddHint(nil, 0, impl.Sample{}), []impl.Hint{{}})
	for size := range 8 {
		hints := longHints(size)
		checkHints(t, "behind all others", impl.AddHint(hints, 0, impl.Sample{}), append(longHints(size), impl.Hint{}))
		for _, h := range hints {
			other := impl.Hint{Node: h.Node, Sample: withField(h.Sample, 2, 1)}
			checkHints(t, "for the same node", impl.AddHint(hints, h.Node, other.Sample), append(longHints(size), other))
		}
	}
}

func TestAddHintThatCannotBe(t *testing.T) {
	x := impl.Sample{Series: 1, Time: 2, Id: 3, Value: 4}
	lists := [][]impl.Hint{nil, {{Node: 2, Sample: x}}, longHints(7), longHints(8)}
	for _, hints := range lists {
		for _, bad := range faultySamples() {
			for _, node := range []int64{-1, 0, 3, 4} {
				checkNoHints(t, "a sample with a fault", impl.AddHint(hints, node, bad), impl.ErrRange)
			}
		}
		for _, node := range []int64{-1, 4, 5, -4, 1 << 32, math.MinInt64, math.MaxInt64} {
			checkNoHints(t, "no such node", impl.AddHint(hints, node, x), impl.ErrRange)
		}
		for _, h := range hints {
			checkNoHints(t, "it is there", impl.AddHint(hints, h.Node, h.Sample), impl.ErrTaken)
			checkNoHints(t, "its Id is there", impl.AddHint(hints, h.Node, impl.Sample{Series: 7, Time: 7, Id: h.Sample.Id, Value: 7}), impl.ErrTaken)
			checkNoHints(t, "its Id is there, and a fault", impl.AddHint(hints, h.Node, withField(h.Sample, 3, 1001)), impl.ErrRange)
		}
	}
	full := longHints(8)
	for node := range int64(4) {
		checkNoHints(t, "no room", impl.AddHint(full, node, x), impl.ErrFull)
		checkNoHints(t, "no room for zero", impl.AddHint(full, node, impl.Sample{}), impl.ErrFull)
	}
	// The Id is there, but not for this node.
	checkNoHints(t, "no room for an Id of another node", impl.AddHint(full, 3, full[0].Sample), impl.ErrFull)
}

func TestLastHintOfEight(t *testing.T) {
	full := longHints(8)
	for i, h := range full {
		less := withoutHint(full, i)
		fresh := impl.Hint{Node: h.Node, Sample: h.Sample}
		got := impl.AddHint(less, h.Node, h.Sample)
		checkHints(t, "the last room", got, append(slices.Clone(less), fresh))
		checkNoHints(t, "no room any more", impl.AddHint(got.Hints, 0, impl.Sample{}), impl.ErrFull)
		checkNoHints(t, "it has come there", impl.AddHint(got.Hints, h.Node, h.Sample), impl.ErrTaken)
		checkHints(t, "the last one is gone", impl.DoneHint(got.Hints, h.Node, h.Sample.Id), less)
		checkHints(t, "all are due", impl.DueHints(got.Hints, 200000), got.Hints)
	}
}

func TestDoneHint(t *testing.T) {
	for size := range 9 {
		hints := longHints(size)
		for i, h := range hints {
			checkHints(t, "gone", impl.DoneHint(hints, h.Node, h.Sample.Id), withoutHint(hints, i))
		}
		for _, node := range oddNumbers() {
			for _, id := range append(oddNumbers(), 9000, 8999, 8998, 8997) {
				if plainHintPlace(hints, node, id) < 0 {
					checkNoHints(t, "there is none", impl.DoneHint(hints, node, id), impl.ErrNone)
				}
			}
		}
	}
	checkNoHints(t, "none of an empty list", impl.DoneHint([]impl.Hint{}, 0, 0), impl.ErrNone)
	checkHints(t, "zero is gone", impl.DoneHint([]impl.Hint{{Due: 5, Tries: 1}}, 0, 0), nil)
}

func TestDoneHintOfOneIdForTwoNodes(t *testing.T) {
	x := impl.Sample{Series: 1, Id: 3}
	hints := []impl.Hint{{Node: 2, Sample: x, Tries: 1, Due: 4}, {Node: 0, Sample: impl.Sample{Id: 2}}, {Node: 1, Sample: x}}
	checkHints(t, "the first one", impl.DoneHint(hints, 2, 3), hints[1:])
	checkHints(t, "the last one", impl.DoneHint(hints, 1, 3), hints[:2])
	checkHints(t, "another Id", impl.DoneHint(hints, 0, 2), []impl.Hint{hints[0], hints[2]})
	checkNoHints(t, "of a node for which it is not", impl.DoneHint(hints, 0, 3), impl.ErrNone)
	checkNoHints(t, "of an Id that the node has not", impl.DoneHint(hints, 2, 2), impl.ErrNone)
	again := impl.AddHint(impl.DoneHint(hints, 2, 3).Hints, 2, x)
	checkHints(t, "put there again", again, []impl.Hint{hints[1], hints[2], {Node: 2, Sample: x}})
}

func TestDueHints(t *testing.T) {
	hints := []impl.Hint{
		{Node: 0, Due: 10},
		{Node: 1, Due: 0},
		{Node: 2, Due: 200000, Tries: 4},
		{Node: 3, Due: 10, Tries: 2},
		{Node: 0, Due: 9, Sample: impl.Sample{Id: 1}},
	}
	for _, c := range []struct {
		now  int64
		want []impl.Hint
	}{
		{math.MinInt64, nil},
		{-1, nil},
		{0, hints[1:2]},
		{1, hints[1:2]},
		{8, hints[1:2]},
		{9, []impl.Hint{hints[1], hints[4]}},
		{10, []impl.Hint{hints[0], hints[1], hints[3], hints[4]}},
		{11, []impl.Hint{hints[0], hints[1], hints[3], hints[4]}},
		{100000, []impl.Hint{hints[0], hints[1], hints[3], hints[4]}},
		{199999, []impl.Hint{hints[0], hints[1], hints[3], hints[4]}},
		{200000, hints},
		{200001, hints},
		{math.MaxInt64, hints},
	} {
		checkHints(t, "due", impl.DueHints(hints, c.now), c.want)
		checkHints(t, "due of nothing", impl.DueHints(nil, c.now), nil)
		checkHints(t, "due of an empty list", impl.DueHints([]impl.Hint{}, c.now), nil)
	}
}

func TestSentHint(t *testing.T) {
	x := impl.Sample{Series: 1, Time: 2, Id: 3, Value: 4}
	backoffs := []int64{1, 2, 4, 8, 16}
	for tries, backoff := range backoffs {
		next := min(int64(tries)+1, 4)
		for _, now := range []int64{0, 1, 77, 99999, 100000} {
			// What it was Due at ahead of that does not count.
			for _, due := range []int64{0, 5, now, 200000} {
				hints := []impl.Hint{{Node: 3, Sample: x, Tries: int64(tries), Due: due}}
				checkHints(t, "sent", impl.SentHint(hints, 3, 3, now), []impl.Hint{{Node: 3, Sample: x, Tries: next, Due: now + backoff}})
			}
		}
	}
	for size := range 9 {
		hints := longHints(size)
		for i, h := range hints {
			sent := impl.Hint{Node: h.Node, Sample: h.Sample, Tries: min(h.Tries+1, 4), Due: 50 + backoffs[h.Tries]}
			checkHints(t, "sent at its place", impl.SentHint(hints, h.Node, h.Sample.Id, 50), withHint(hints, i, sent))
		}
	}
}

func TestSentHintThatCannotBe(t *testing.T) {
	for _, hints := range [][]impl.Hint{nil, {}, {{}}, longHints(8)} {
		for _, now := range []int64{-1, 100001, 200000, -100000, math.MinInt64, math.MaxInt64, math.MaxInt64 - 15} {
			checkNoHints(t, "a clock out of bounds", impl.SentHint(hints, 0, 9000, now), impl.ErrRange)
			checkNoHints(t, "a clock out of bounds, and none", impl.SentHint(hints, 9, 77, now), impl.ErrRange)
			checkNoHints(t, "a clock out of bounds, of zero", impl.SentHint(hints, 0, 0, now), impl.ErrRange)
		}
		for _, now := range []int64{0, 50, 100000} {
			for _, node := range oddNumbers() {
				for _, id := range append(oddNumbers(), 9000, 8999, 8998, 8997) {
					if plainHintPlace(hints, node, id) < 0 {
						checkNoHints(t, "there is none", impl.SentHint(hints, node, id, now), impl.ErrNone)
					}
				}
			}
		}
	}
}

func TestSameHints(t *testing.T) {
	far := impl.Hint{Node: -9, Sample: impl.Sample{Series: math.MinInt64, Value: math.MaxInt64}, Tries: 99, Due: -5}
	a, b := longHints(8)[3], longHints(8)[6]
	for _, c := range []struct {
		a, b []impl.Hint
		want bool
	}{
		{nil, nil, true},
		{nil, []impl.Hint{}, true},
		{[]impl.Hint{}, nil, true},
		{nil, []impl.Hint{{}}, false},
		{longHints(8), longHints(8), true},
		{longHints(20), longHints(20), true},
		{longHints(8), longHints(7), false},
		{longHints(20), longHints(21), false},
		{[]impl.Hint{far, far}, []impl.Hint{far, far}, true},
		{[]impl.Hint{a, b}, []impl.Hint{b, a}, false},
		{[]impl.Hint{a, a}, []impl.Hint{a}, false},
		{[]impl.Hint{a, a, b}, []impl.Hint{a, b, b}, false},
		{longHints(8)[1:], longHints(8)[:7], false},
	} {
		if impl.SameHints(c.a, c.b) != c.want || impl.SameHints(c.b, c.a) != c.want {
			t.Errorf("SameHints of %v and %v is not %v", c.a, c.b, c.want)
		}
	}
	hints := longHints(5)
	for at := range hints {
		for field := range 7 {
			other := withHint(hints, at, withHintField(hints[at], field, 777))
			if impl.SameHints(hints, other) || impl.SameHints(other, hints) {
				t.Errorf("SameHints of %v and %v", hints, other)
			}
		}
	}
}
