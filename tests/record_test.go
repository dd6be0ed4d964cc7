package tests

import (
	"bytes"
	"math"
	"slices"
	"testing"

	"loop.example/g00791/impl"
)

// withRecordField is the record with another number in the field that i
// counts; the first four are those of its sample.
func withRecordField(r impl.Record, i int, n int64) impl.Record {
	switch i {
	case 4:
		r.Node = n
	case 5:
		r.Number = n
	case 6:
		r.Kind = n
	default:
		r.Sample = withField(r.Sample, i, n)
	}
	return r
}

// plainRecordFault tells of a record as the document writes it.
func plainRecordFault(r impl.Record) int64 {
	hasSample := r.Kind == 1 || r.Kind == 2
	hasNode := r.Kind == 2 || r.Kind == 3
	hasNumber := r.Kind == 3 || r.Kind == 4
	if r.Kind < 1 || r.Kind > 4 ||
		!hasSample && r.Sample != (impl.Sample{}) ||
		!hasNode && r.Node != 0 ||
		!hasNumber && r.Number != 0 {
		return impl.ErrForm
	}
	if r.Node < 0 || r.Node > 3 ||
		r.Number < 0 || r.Kind == 3 && r.Number > 9999 || r.Number > 60000 {
		return impl.ErrRange
	}
	return plainSampleFault(r.Sample)
}

// plainRecordBytes are the bytes of a record that has no fault.
func plainRecordBytes(r impl.Record) []byte {
	number := []byte{byte(r.Number % 256), byte(r.Number / 256)}
	switch r.Kind {
	case 1:
		return append([]byte{1}, plainBytes(r.Sample)...)
	case 2:
		return append([]byte{2, byte(r.Node)}, plainBytes(r.Sample)...)
	case 3:
		return append([]byte{3, byte(r.Node)}, number...)
	}
	return append([]byte{4}, number...)
}

// plainRecord reads the record that has these bytes, if there is one, by how
// many they are.
func plainRecord(data []byte) (impl.Record, bool) {
	sizes := map[byte]int{1: 8, 2: 9, 3: 4, 4: 3}
	if len(data) == 0 || sizes[data[0]] != len(data) {
		return impl.Record{}, false
	}
	r := impl.Record{Kind: int64(data[0])}
	rest := data[1:]
	if r.Kind == 2 || r.Kind == 3 {
		r.Node, rest = int64(rest[0]), rest[1:]
	}
	if r.Kind <= 2 {
		r.Sample = impl.Sample{
			Series: int64(rest[0]),
			Time:   int64(rest[1]) + 256*int64(rest[2]),
			Id:     int64(rest[3]) + 256*int64(rest[4]),
			Value:  int64(rest[5]) + 256*int64(rest[6]) - 1000,
		}
	} else {
		r.Number = int64(rest[0]) + 256*int64(rest[1])
	}
	return r, plainRecordFault(r) == impl.OK
}

func plainStateFault(s impl.State) int64 {
	for _, fault := range []int64{plainStoreFault(s.Store), plainHintsFault(s.Hints)} {
		if fault != impl.OK {
			return fault
		}
	}
	if s.Life < 0 || s.Life > 60000 {
		return impl.ErrRange
	}
	return impl.OK
}

// plainApply is what comes of a record, and the code with which it does not.
func plainApply(s impl.State, r impl.Record) (impl.State, int64) {
	for _, fault := range []int64{plainStateFault(s), plainRecordFault(r)} {
		if fault != impl.OK {
			return impl.State{}, fault
		}
	}
	at := plainHintPlace(s.Hints, r.Node, r.Sample.Id)
	switch {
	case r.Kind == 1 && plainPlace(s.Store, r.Sample) < 0 && len(s.Store) == 160, r.Kind == 2 && at < 0 && len(s.Hints) == 8:
		return impl.State{}, impl.ErrFull
	case r.Kind == 1:
		s.Store = plainStore(s.Store, []impl.Sample{r.Sample})
	case r.Kind == 2 && at >= 0:
		return impl.State{}, impl.ErrTaken
	case r.Kind == 2:
		s.Hints = append(slices.Clone(s.Hints), impl.Hint{Node: r.Node, Sample: r.Sample})
	case r.Kind == 3:
		at = plainHintPlace(s.Hints, r.Node, r.Number)
		if at < 0 {
			return impl.State{}, impl.ErrNone
		}
		s.Hints = withoutHint(s.Hints, at)
	case r.Number < s.Life:
		return impl.State{}, impl.ErrState
	default:
		s.Life = r.Number
	}
	return s, impl.OK
}

// isState holds two states against each other without the program.
func isState(a impl.State, b impl.State) bool {
	return slices.Equal(a.Store, b.Store) && slices.Equal(a.Hints, b.Hints) && a.Life == b.Life
}

func checkState(t *testing.T, what string, got impl.StateResult, want impl.State) {
	t.Helper()
	if got.Code != impl.OK || !isState(got.State, want) {
		t.Fatalf("%s: %v; want %v", what, got, want)
	}
}

func checkNoState(t *testing.T, what string, got impl.StateResult, code int64) {
	t.Helper()
	if got.Code != code || !isState(got.State, impl.State{}) {
		t.Fatalf("%s: %v; want the code %d alone", what, got, code)
	}
}

// checkApply applies a record, and asks that just that comes of it which the
// document says; it tells what is there then.
func checkApply(t *testing.T, s impl.State, r impl.Record) impl.State {
	t.Helper()
	got := impl.ApplyRecord(s, r)
	want, code := plainApply(s, r)
	if code != impl.OK {
		checkNoState(t, "not applied", got, code)
		return s
	}
	checkState(t, "applied", got, want)
	return got.State
}

func checkRecord(t *testing.T, data []byte, want impl.Record) {
	t.Helper()
	if got := impl.DecodeRecord(data); got != (impl.RecordResult{Record: want}) {
		t.Fatalf("DecodeRecord(%v) = %v; want %v", data, got, want)
	}
}

func checkNoRecord(t *testing.T, data []byte) {
	t.Helper()
	if got := impl.DecodeRecord(data); got != (impl.RecordResult{Code: impl.ErrText}) {
		t.Fatalf("DecodeRecord(%v) = %v; want ErrText alone", data, got)
	}
}

// endRecords have each number at both its ends, next to them and between them.
func endRecords() []impl.Record {
	var list []impl.Record
	for i, x := range endSamples() {
		list = append(list, impl.Record{Kind: 1, Sample: x}, impl.Record{Kind: 2, Node: int64(i % 4), Sample: x})
	}
	for node := range int64(4) {
		for _, n := range []int64{0, 1, 255, 256, 257, 5000, 9998, 9999} {
			list = append(list, impl.Record{Kind: 3, Node: node, Number: n})
		}
	}
	for _, n := range []int64{0, 1, 255, 256, 9999, 10000, 32768, 59999, 60000} {
		list = append(list, impl.Record{Kind: 4, Number: n})
	}
	return list
}

type faultyRecord struct {
	what   string
	record impl.Record
	code   int64
}

func faultyRecords() []faultyRecord {
	whole := impl.Sample{Series: 1, Time: 2, Id: 3, Value: 4}
	bad := impl.Sample{Id: 10000}
	list := []faultyRecord{
		{"all zero", impl.Record{}, impl.ErrForm},
		{"no kind, and a sample", impl.Record{Sample: whole}, impl.ErrForm},
		{"no kind, and out of bounds", impl.Record{Kind: 5, Node: 4, Number: -1, Sample: bad}, impl.ErrForm},
		{"a sample with a node", impl.Record{Kind: 1, Sample: whole, Node: 1}, impl.ErrForm},
		{"a sample with a number", impl.Record{Kind: 1, Sample: whole, Number: 3}, impl.ErrForm},
		{"a sample with a fault and a node", impl.Record{Kind: 1, Sample: bad, Node: 4}, impl.ErrForm},
		{"a hint with a number", impl.Record{Kind: 2, Node: 1, Sample: whole, Number: 3}, impl.ErrForm},
		{"a hint out of bounds with a number", impl.Record{Kind: 2, Node: 4, Sample: bad, Number: -3}, impl.ErrForm},
		{"a done one out of bounds with a sample", impl.Record{Kind: 3, Node: 4, Number: 10000, Sample: bad}, impl.ErrForm},
		{"a life with a node", impl.Record{Kind: 4, Node: 1, Number: 5}, impl.ErrForm},
		{"a life out of bounds with a node", impl.Record{Kind: 4, Node: -1, Number: 60001}, impl.ErrForm},
		{"all of a done one out of bounds", impl.Record{Kind: 3, Node: 4, Number: 10000}, impl.ErrRange},
		{"all of a hint out of bounds", impl.Record{Kind: 2, Node: 4, Sample: bad}, impl.ErrRange},
		{"an Id that would be a life", impl.Record{Kind: 3, Number: 60000}, impl.ErrRange},
	}
	for _, kind := range []int64{-1, 0, 5, 6, 255, 256, 257, 258, 1 << 32, 1<<32 + 1, math.MinInt64, math.MaxInt64} {
		list = append(list, faultyRecord{"no such kind", impl.Record{Kind: kind}, impl.ErrForm})
	}
	for i := range 4 {
		for _, n := range []int64{-1, 1, 10000, math.MinInt64, math.MaxInt64} {
			list = append(list,
				faultyRecord{"a done one with a sample", withRecordField(impl.Record{Kind: 3, Number: 1}, i, n), impl.ErrForm},
				faultyRecord{"a life with a sample", withRecordField(impl.Record{Kind: 4}, i, n), impl.ErrForm},
			)
		}
	}
	for _, x := range faultySamples() {
		list = append(list,
			faultyRecord{"a sample with a fault", impl.Record{Kind: 1, Sample: x}, impl.ErrRange},
			faultyRecord{"a hint of a sample with a fault", impl.Record{Kind: 2, Node: 3, Sample: x}, impl.ErrRange},
		)
	}
	for _, n := range []int64{-1, 4, 5, 255, 256, 257, 1 << 32, math.MinInt64, math.MaxInt64} {
		list = append(list,
			faultyRecord{"a hint for no such node", impl.Record{Kind: 2, Node: n, Sample: whole}, impl.ErrRange},
			faultyRecord{"a done one of no such node", impl.Record{Kind: 3, Node: n, Number: 3}, impl.ErrRange},
		)
	}
	for _, n := range []int64{-1, 10000, 10001, 65535, 65536, 1 << 32, math.MinInt64, math.MaxInt64} {
		list = append(list, faultyRecord{"a done one of no Id", impl.Record{Kind: 3, Node: 1, Number: n}, impl.ErrRange})
	}
	for _, n := range []int64{-1, 60001, 65535, 65536, 1 << 32, math.MinInt64, math.MaxInt64} {
		list = append(list, faultyRecord{"no life", impl.Record{Kind: 4, Number: n}, impl.ErrRange})
	}
	return list
}

func TestRecordConstants(t *testing.T) {
	got := []int64{impl.RecSample, impl.RecHint, impl.RecDone, impl.RecLife, impl.MaxLife}
	if !slices.Equal(got, []int64{1, 2, 3, 4, 60000}) {
		t.Error("the constants are", got)
	}
}

func TestRecordFault(t *testing.T) {
	for _, r := range endRecords() {
		if got := impl.RecordFault(r); got != impl.OK {
			t.Errorf("RecordFault(%v) = %d; want none", r, got)
		}
	}
	for _, c := range faultyRecords() {
		if plainRecordFault(c.record) != c.code {
			t.Fatal(c.what, "is told in two ways by the tests")
		}
		if got := impl.RecordFault(c.record); got != c.code {
			t.Errorf("%s: RecordFault(%v) = %d; want %d", c.what, c.record, got, c.code)
		}
	}
}

func TestEncodeRecord(t *testing.T) {
	x := impl.Sample{Series: 1, Time: 2, Id: 3, Value: 4}
	y := impl.Sample{Series: 9, Time: 999, Id: 9999, Value: -1000}
	for _, c := range []struct {
		record impl.Record
		want   []byte
	}{
		{impl.Record{Kind: 1, Sample: x}, []byte{1, 1, 2, 0, 3, 0, 236, 3}},
		{impl.Record{Kind: 1, Sample: y}, []byte{1, 9, 231, 3, 15, 39, 0, 0}},
		{impl.Record{Kind: 1}, []byte{1, 0, 0, 0, 0, 0, 232, 3}},
		{impl.Record{Kind: 2, Node: 3, Sample: x}, []byte{2, 3, 1, 2, 0, 3, 0, 236, 3}},
		{impl.Record{Kind: 2, Sample: y}, []byte{2, 0, 9, 231, 3, 15, 39, 0, 0}},
		{impl.Record{Kind: 2}, []byte{2, 0, 0, 0, 0, 0, 0, 232, 3}},
		{impl.Record{Kind: 3, Node: 2, Number: 3}, []byte{3, 2, 3, 0}},
		{impl.Record{Kind: 3, Node: 3, Number: 9999}, []byte{3, 3, 15, 39}},
		{impl.Record{Kind: 3}, []byte{3, 0, 0, 0}},
		{impl.Record{Kind: 4, Number: 258}, []byte{4, 2, 1}},
		{impl.Record{Kind: 4, Number: 60000}, []byte{4, 96, 234}},
		{impl.Record{Kind: 4}, []byte{4, 0, 0}},
	} {
		if got := impl.EncodeRecord(c.record); got.Code != impl.OK || !bytes.Equal(got.Bytes, c.want) {
			t.Errorf("EncodeRecord(%v) = %v; want %v", c.record, got, c.want)
		}
		checkRecord(t, c.want, c.record)
	}
	for _, c := range faultyRecords() {
		if got := impl.EncodeRecord(c.record); got.Code != c.code || len(got.Bytes) != 0 {
			t.Errorf("%s: EncodeRecord(%v) = %v; want the code %d alone", c.what, c.record, got, c.code)
		}
	}
}

func TestDecodeRecordOfNone(t *testing.T) {
	for _, data := range [][]byte{
		nil, {}, {0}, {1}, {2}, {3}, {4}, {5}, {9}, {255},
		{0, 0, 0}, {5, 0, 0}, {1, 0, 0}, {2, 0, 0}, {3, 0, 0}, {4, 0}, {4, 0, 0, 0},
		{0, 0, 0, 0}, {1, 0, 0, 0}, {2, 0, 0, 0}, {5, 0, 0, 0}, {3, 0, 0, 0, 0},
		// Numbers out of bounds.
		{4, 97, 234}, {4, 255, 255}, {3, 0, 16, 39}, {3, 0, 255, 255}, {3, 4, 0, 0}, {3, 255, 0, 0},
		{2, 4, 1, 2, 0, 3, 0, 236, 3}, {2, 0, 10, 2, 0, 3, 0, 236, 3}, {2, 0, 1, 232, 3, 3, 0, 236, 3},
		{1, 10, 2, 0, 3, 0, 236, 3}, {1, 1, 232, 3, 3, 0, 236, 3}, {1, 1, 2, 0, 16, 39, 236, 3}, {1, 1, 2, 0, 3, 0, 209, 7},
		// What has the bytes of one kind, and the length of the other one.
		{1, 0, 1, 2, 0, 3, 0, 236, 3}, {2, 1, 2, 0, 3, 0, 236, 3},
		make([]byte, 8), make([]byte, 9), make([]byte, 40), make([]byte, 100000),
	} {
		checkNoRecord(t, data)
	}
	for _, r := range endRecords() {
		whole := plainRecordBytes(r)
		for size := range len(whole) {
			checkNoRecord(t, whole[:size])
		}
		for _, more := range [][]byte{{0}, {1}, whole} {
			checkNoRecord(t, slices.Concat(whole, more))
		}
	}
}

// wholeState is a state that has some of all.
func wholeState() impl.State {
	return impl.State{Store: longStore(30), Hints: longHints(5), Life: 700}
}

// fullState has no room for anything more.
func fullState() impl.State {
	return impl.State{Store: longStore(160), Hints: longHints(8), Life: 60000}
}

type faultyState struct {
	what  string
	state impl.State
	code  int64
}

func faultyStates() []faultyState {
	var list []faultyState
	for _, c := range faultyStores()[:30] {
		list = append(list,
			faultyState{"a store: " + c.what, impl.State{Store: c.store}, c.code},
			faultyState{"a store and more: " + c.what, impl.State{Store: c.store, Hints: make([]impl.Hint, 2), Life: -1}, c.code},
		)
	}
	for _, c := range faultyHints()[:40] {
		list = append(list,
			faultyState{"hints: " + c.what, impl.State{Store: longStore(160), Hints: c.hints}, c.code},
			faultyState{"hints and a life: " + c.what, impl.State{Hints: c.hints, Life: 60001}, c.code},
		)
	}
	for _, life := range []int64{-1, 60001, 65535, 1 << 32, math.MinInt64, math.MaxInt64} {
		list = append(list,
			faultyState{"a life", impl.State{Life: life}, impl.ErrRange},
			faultyState{"a life of a full one", impl.State{Store: longStore(160), Hints: longHints(8), Life: life}, impl.ErrRange},
		)
	}
	return append(list,
		faultyState{"the store ahead of the hints", impl.State{Store: make([]impl.Sample, 2), Hints: make([]impl.Hint, 9)}, impl.ErrForm},
		faultyState{"the hints ahead of the life", impl.State{Hints: make([]impl.Hint, 2), Life: -1}, impl.ErrTaken},
	)
}

func TestStateFault(t *testing.T) {
	for _, s := range []impl.State{
		{},
		{Store: []impl.Sample{}, Hints: []impl.Hint{}},
		{Life: 1},
		{Life: 60000},
		{Store: longStore(1)},
		{Hints: longHints(1)},
		wholeState(),
		fullState(),
	} {
		if got := impl.StateFault(s); got != impl.OK {
			t.Errorf("StateFault(%v) = %d; want none", s, got)
		}
	}
	for _, c := range faultyStates() {
		if plainStateFault(c.state) != c.code {
			t.Fatal(c.what, "is told in two ways by the tests")
		}
		if got := impl.StateFault(c.state); got != c.code {
			t.Errorf("%s: StateFault(%v) = %d; want %d", c.what, c.state, got, c.code)
		}
	}
}

func TestApplyRecord(t *testing.T) {
	x := impl.Sample{Series: 1, Time: 2, Id: 3, Value: 4}
	store, hints := []impl.Sample{x}, []impl.Hint{{Node: 2, Sample: x}}
	for _, c := range []struct {
		what   string
		state  impl.State
		record impl.Record
		want   impl.State
	}{
		{"a sample", impl.State{}, impl.Record{Kind: 1, Sample: x}, impl.State{Store: store}},
		{"a sample of a key that is there", impl.State{Store: store}, impl.Record{Kind: 1, Sample: withField(x, 3, 9)}, impl.State{Store: store}},
		{"a sample beside hints", impl.State{Hints: hints, Life: 7}, impl.Record{Kind: 1, Sample: x}, impl.State{Store: store, Hints: hints, Life: 7}},
		{"a hint", impl.State{}, impl.Record{Kind: 2, Node: 2, Sample: x}, impl.State{Hints: hints}},
		{"a hint of what the store has", impl.State{Store: store, Life: 7}, impl.Record{Kind: 2, Node: 2, Sample: x}, impl.State{Store: store, Hints: hints, Life: 7}},
		{"a hint for the first node", impl.State{}, impl.Record{Kind: 2}, impl.State{Hints: []impl.Hint{{}}}},
		{"a done one", impl.State{Hints: hints}, impl.Record{Kind: 3, Node: 2, Number: 3}, impl.State{}},
		{"a done one that was sent", impl.State{Store: store, Hints: []impl.Hint{{Node: 2, Sample: x, Tries: 4, Due: 99}}, Life: 7}, impl.Record{Kind: 3, Node: 2, Number: 3}, impl.State{Store: store, Life: 7}},
		{"a life", impl.State{}, impl.Record{Kind: 4, Number: 60000}, impl.State{Life: 60000}},
		{"a life of 0", impl.State{}, impl.Record{Kind: 4}, impl.State{}},
		{"the same life", impl.State{Store: store, Hints: hints, Life: 7}, impl.Record{Kind: 4, Number: 7}, impl.State{Store: store, Hints: hints, Life: 7}},
		{"one more life", impl.State{Store: store, Hints: hints, Life: 7}, impl.Record{Kind: 4, Number: 8}, impl.State{Store: store, Hints: hints, Life: 8}},
		{"the last life", fullState(), impl.Record{Kind: 4, Number: 60000}, fullState()},
		{"a sample that a full store has", fullState(), impl.Record{Kind: 1, Sample: longStore(160)[80]}, fullState()},
	} {
		checkState(t, c.what, impl.ApplyRecord(c.state, c.record), c.want)
		if want, code := plainApply(c.state, c.record); code != impl.OK || !isState(want, c.want) {
			t.Fatal(c.what, "is told in two ways by the tests")
		}
	}
}

func TestApplyRecordThatDoesNotFit(t *testing.T) {
	x := impl.Sample{Series: 1, Time: 2, Id: 3, Value: 4}
	owed := impl.State{Hints: []impl.Hint{{Node: 2, Sample: x}}, Life: 7}
	for _, c := range []struct {
		what   string
		state  impl.State
		record impl.Record
		code   int64
	}{
		{"a sample of a full store", fullState(), impl.Record{Kind: 1}, impl.ErrFull},
		{"a hint that is there", owed, impl.Record{Kind: 2, Node: 2, Sample: x}, impl.ErrTaken},
		{"a hint whose Id is there", owed, impl.Record{Kind: 2, Node: 2, Sample: impl.Sample{Series: 5, Id: 3}}, impl.ErrTaken},
		{"a hint that is there, of full ones", fullState(), impl.Record{Kind: 2, Node: 3, Sample: longHints(8)[7].Sample}, impl.ErrTaken},
		{"a hint of full ones", fullState(), impl.Record{Kind: 2}, impl.ErrFull},
		{"a done one of nothing", impl.State{}, impl.Record{Kind: 3}, impl.ErrNone},
		{"a done one that the store has", impl.State{Store: []impl.Sample{x}}, impl.Record{Kind: 3, Number: 3}, impl.ErrNone},
		{"a done one of another node", owed, impl.Record{Kind: 3, Node: 1, Number: 3}, impl.ErrNone},
		{"a done one of another Id", owed, impl.Record{Kind: 3, Node: 2, Number: 2}, impl.ErrNone},
		{"a life that goes down", owed, impl.Record{Kind: 4, Number: 6}, impl.ErrState},
		{"a life that goes down to 0", owed, impl.Record{Kind: 4}, impl.ErrState},
		{"a life below the last one", fullState(), impl.Record{Kind: 4, Number: 59999}, impl.ErrState},
	} {
		checkNoState(t, c.what, impl.ApplyRecord(c.state, c.record), c.code)
		if _, code := plainApply(c.state, c.record); code != c.code {
			t.Fatal(c.what, "is told in two ways by the tests")
		}
	}
}

func TestFaultsAreAskedAheadOfWhatIsApplied(t *testing.T) {
	records := []impl.Record{{Kind: 1}, {Kind: 2, Node: 1, Sample: impl.Sample{Id: 9000}}, {Kind: 3, Node: 3, Number: 77}, {Kind: 4}, {}, {Kind: 4, Number: -1}}
	for _, c := range faultyStates() {
		for _, r := range records {
			checkNoState(t, c.what, impl.ApplyRecord(c.state, r), c.code)
		}
	}
	for _, c := range faultyRecords() {
		for _, s := range []impl.State{{}, wholeState(), fullState()} {
			checkNoState(t, c.what, impl.ApplyRecord(s, c.record), c.code)
		}
	}
}

func TestSameStates(t *testing.T) {
	far := impl.State{Store: []impl.Sample{{Series: -5}, {Series: -5}}, Hints: []impl.Hint{{Node: 99}, {Node: 99}}, Life: math.MinInt64}
	for _, c := range []struct {
		a, b impl.State
		want bool
	}{
		{impl.State{}, impl.State{}, true},
		{impl.State{}, impl.State{Store: []impl.Sample{}, Hints: []impl.Hint{}}, true},
		{wholeState(), wholeState(), true},
		{fullState(), fullState(), true},
		{far, far, true},
		{impl.State{}, impl.State{Life: 1}, false},
		{impl.State{}, impl.State{Store: make([]impl.Sample, 1)}, false},
		{impl.State{}, impl.State{Hints: make([]impl.Hint, 1)}, false},
		{impl.State{Life: -1}, impl.State{Life: math.MaxInt64}, false},
		{wholeState(), impl.State{Store: longStore(31), Hints: longHints(5), Life: 700}, false},
		{wholeState(), impl.State{Store: longStore(30), Hints: longHints(4), Life: 700}, false},
		{wholeState(), impl.State{Store: longStore(30), Hints: longHints(5), Life: 701}, false},
		{wholeState(), impl.State{Store: longStore(30), Life: 700}, false},
		{wholeState(), impl.State{Hints: longHints(5), Life: 700}, false},
		{wholeState(), fullState(), false},
	} {
		if impl.SameStates(c.a, c.b) != c.want || impl.SameStates(c.b, c.a) != c.want {
			t.Errorf("SameStates of %v and %v is not %v", c.a, c.b, c.want)
		}
	}
	for field := range 7 {
		s := wholeState()
		s.Hints[3] = withHintField(s.Hints[3], field, 777)
		if impl.SameStates(s, wholeState()) || impl.SameStates(wholeState(), s) {
			t.Errorf("SameStates with another field %d of a hint", field)
		}
	}
	for field := range 4 {
		s := wholeState()
		s.Store[20] = withField(s.Store[20], field, 777)
		if impl.SameStates(s, wholeState()) || impl.SameStates(wholeState(), s) {
			t.Errorf("SameStates with another field %d of a sample", field)
		}
	}
}
