package tests

import (
	"bytes"
	"math"
	"reflect"
	"slices"
	"testing"

	"loop.example/g00791/impl"
)

// Promise 1, of the functions of chapter 5.

func oddRecords() []impl.Record {
	list := append(endRecords()[:100], someRecords()...)
	for _, c := range faultyRecords() {
		list = append(list, c.record)
	}
	for _, n := range oddNumbers() {
		for field := range 7 {
			list = append(list,
				withRecordField(impl.Record{}, field, n),
				withRecordField(impl.Record{Kind: 2, Node: 3, Sample: impl.Sample{Id: 9999}}, field, n),
				withRecordField(impl.Record{Kind: 3, Node: 3, Number: 9999}, field, n),
				withRecordField(impl.Record{Kind: 4, Number: 60000}, field, n),
			)
		}
		list = append(list, impl.Record{Kind: n, Node: n, Number: n, Sample: impl.Sample{Series: n, Time: n, Id: n, Value: n}})
	}
	return list
}

func oddRecordBytes() [][]byte {
	list := oddSampleBytes()
	for _, r := range someRecords() {
		whole := plainRecordBytes(r)
		list = append(list, whole, whole[:len(whole)-1], append(bytes.Clone(whole), 0))
	}
	return list
}

func oddStates() []impl.State {
	list := []impl.State{{}, {Store: []impl.Sample{}, Hints: []impl.Hint{}}, wholeState(), fullState()}
	for _, store := range oddStores() {
		list = append(list, impl.State{Store: store, Hints: longHints(3), Life: 5})
	}
	for _, hints := range oddHints() {
		list = append(list, impl.State{Store: longStore(3), Hints: hints, Life: 5})
	}
	for _, n := range oddNumbers() {
		list = append(list, impl.State{Life: n}, impl.State{Store: longStore(3), Hints: longHints(3), Life: n})
	}
	return list
}

func oddDisks() [][]byte {
	list := oddBytes()
	whole := diskOf(someRecords()...)
	over, _ := fullDisk(impl.MaxDisk + 1)
	full, _ := fullDisk(impl.MaxDisk)
	for cut := range whole {
		list = append(list, whole[:cut])
	}
	return append(list, whole, full, over)
}

// fewRecords has one record of each kind, and some with a fault.
func fewRecords() []impl.Record {
	return []impl.Record{
		{Kind: 1, Sample: impl.Sample{Series: 5, Time: 5, Id: 5}},
		{Kind: 1, Sample: longStore(1)[0]},
		{Kind: 2, Node: 2, Sample: impl.Sample{Id: 7}},
		{Kind: 2, Node: 0, Sample: impl.Sample{Id: 9000}},
		{Kind: 3, Node: 0, Number: 9000},
		{Kind: 3, Node: 3, Number: 1},
		{Kind: 4},
		{Kind: 4, Number: 60000},
		{},
		{Kind: 4, Number: -1},
	}
}

// statesOfAll asks the functions of states one state each; the answers are
// held against one another.
func statesOfAll(s impl.State) []any {
	list := []any{
		impl.StateFault(s),
		impl.SameStates(s, s),
		impl.SameStates(s, wholeState()),
		impl.SameStates(impl.State{}, s),
	}
	for _, r := range fewRecords() {
		list = append(list, impl.ApplyRecord(s, r))
	}
	return list
}

func TestRecordsAnswerAtEveryArgument(t *testing.T) {
	for _, r := range oddRecords() {
		fault := plainRecordFault(r)
		if got := impl.RecordFault(r); got != fault {
			t.Fatalf("RecordFault(%v) = %d; want %d", r, got, fault)
		}
		got := impl.EncodeRecord(r)
		if got.Code != fault || fault != impl.OK && len(got.Bytes) != 0 || fault == impl.OK && !bytes.Equal(got.Bytes, plainRecordBytes(r)) {
			t.Fatalf("EncodeRecord(%v) = %v", r, got)
		}
		for _, s := range []impl.State{{}, wholeState(), fullState(), {Life: -1}} {
			checkApply(t, s, r)
		}
	}
	for _, data := range oddRecordBytes() {
		checkRecordBytes(t, data)
	}
}

func TestStatesAnswerAtEveryArgument(t *testing.T) {
	for _, s := range oddStates() {
		fault := plainStateFault(s)
		if got := impl.StateFault(s); got != fault {
			t.Fatalf("StateFault with the life %d = %d; want %d", s.Life, got, fault)
		}
		if !impl.SameStates(s, s) {
			t.Fatalf("a state with the life %d is not the same as itself", s.Life)
		}
		for _, r := range fewRecords() {
			checkApply(t, s, r)
		}
	}
	for _, n := range oddNumbers() {
		for _, m := range oddNumbers() {
			if impl.SameStates(impl.State{Life: n}, impl.State{Life: m}) != (n == m) {
				t.Fatalf("SameStates of the lives %d and %d", n, m)
			}
		}
	}
}

func TestDisksAnswerAtEveryArgument(t *testing.T) {
	for _, disk := range oddDisks() {
		if len(disk) <= impl.MaxDisk {
			checkSaid(t, "odd", disk, plainSaid(disk)...)
			continue
		}
		got := impl.RecoverDisk(disk)
		if got.Code != impl.ErrMany || !isState(got.State, impl.State{}) || len(got.Records) != 0 || got.Size != 0 {
			t.Fatalf("RecoverDisk of %d bytes has code %d; want ErrMany alone", len(disk), got.Code)
		}
	}
}

func TestRecordsChangeNoArgument(t *testing.T) {
	for _, data := range slices.Concat(oddRecordBytes(), oddDisks()) {
		// What lies in memory behind the argument is not touched, either.
		room := append(bytes.Clone(data), 4, 7, 0, 0)
		kept := bytes.Clone(room)
		impl.DecodeRecord(room[:len(data)])
		impl.RecoverDisk(room[:len(data)])
		if !bytes.Equal(room, kept) {
			t.Errorf("an argument of %d bytes was changed", len(data))
		}
	}
	for _, s := range oddStates() {
		store := slices.Concat(s.Store, longStore(4))
		hints := slices.Concat(s.Hints, longHints(4))
		keptStore, keptHints := slices.Clone(store), slices.Clone(hints)
		statesOfAll(impl.State{Store: store[:len(s.Store)], Hints: hints[:len(s.Hints)], Life: s.Life})
		if !slices.Equal(store, keptStore) || !slices.Equal(hints, keptHints) {
			t.Errorf("a state of %d samples and %d hints was changed", len(s.Store), len(s.Hints))
		}
	}
}

func TestRecordsHangOnArgumentsAlone(t *testing.T) {
	records := oddRecords()
	var first []impl.BytesResult
	for _, r := range records {
		first = append(first, impl.EncodeRecord(r))
	}
	for i := len(records) - 1; i >= 0; i-- {
		if again := impl.EncodeRecord(records[i]); !reflect.DeepEqual(first[i], again) {
			t.Errorf("%v is packed in two ways: %v and %v", records[i], first[i], again)
		}
	}
	list := slices.Concat(oddRecordBytes(), oddDisks())
	var read [][]any
	for _, data := range list {
		read = append(read, []any{impl.DecodeRecord(data), impl.RecoverDisk(data)})
	}
	for i := len(list) - 1; i >= 0; i-- {
		// Other memory, with other room behind it, in another order.
		same := append(make([]byte, 0, len(list[i])+9), list[i]...)
		if again := []any{impl.DecodeRecord(same), impl.RecoverDisk(same)}; !reflect.DeepEqual(read[i], again) {
			t.Errorf("%d bytes are answered in two ways", len(same))
		}
	}
	if !reflect.DeepEqual(impl.RecoverDisk(nil), impl.RecoverDisk([]byte{})) || impl.DecodeRecord(nil) != impl.DecodeRecord([]byte{}) {
		t.Error("nil and an empty list are answered in two ways")
	}
}

func TestStatesHangOnArgumentsAlone(t *testing.T) {
	states := oddStates()
	var first [][]any
	for _, s := range states {
		first = append(first, statesOfAll(s))
	}
	for i := len(states) - 1; i >= 0; i-- {
		s := states[i]
		s.Store = append(make([]impl.Sample, 0, len(s.Store)+3), s.Store...)
		s.Hints = append(make([]impl.Hint, 0, len(s.Hints)+3), s.Hints...)
		if again := statesOfAll(s); !reflect.DeepEqual(first[i], again) {
			t.Errorf("a state of %d samples and %d hints is answered in two ways", len(s.Store), len(s.Hints))
		}
	}
	empty := impl.State{Store: []impl.Sample{}, Hints: []impl.Hint{}}
	if a, b := statesOfAll(impl.State{}), statesOfAll(empty); !reflect.DeepEqual(a, b) {
		t.Error("nil and an empty list are answered in two ways:", a, b)
	}
}

func TestRecordBytesAreNewMemory(t *testing.T) {
	for _, r := range someRecords() {
		want := plainRecordBytes(r)
		packed := impl.EncodeRecord(r).Bytes
		kept := impl.EncodeRecord(r).Bytes
		fill(packed)
		// Held ahead of the next call, which could put the same bytes there again.
		if !bytes.Equal(kept, want) {
			t.Fatalf("EncodeRecord(%v) answers twice with one memory", r)
		}
		if again := impl.EncodeRecord(r).Bytes; !bytes.Equal(again, want) {
			t.Fatalf("EncodeRecord(%v) answers memory that it keeps: %v", r, again)
		}
	}
}

func TestStatesAreNewMemory(t *testing.T) {
	records := []impl.Record{
		{Kind: 1, Sample: impl.Sample{Series: 5, Time: 5, Id: 5}},
		{Kind: 1, Sample: longStore(20)[7]},
		{Kind: 2, Node: 2, Sample: impl.Sample{Id: 7}},
		{Kind: 3, Node: 0, Number: 9000},
		{Kind: 3, Node: 1, Number: 8998},
		{Kind: 4, Number: 701},
	}
	for _, r := range records {
		// With room behind both lists, in which an answer could be put.
		store, hints := longStore(30), longHints(8)
		s := impl.State{Store: store[:20], Hints: hints[:6], Life: 700}
		want, code := plainApply(impl.State{Store: longStore(20), Hints: longHints(6), Life: 700}, r)
		if code != impl.OK {
			t.Fatalf("%v cannot be applied", r)
		}
		got, kept := impl.ApplyRecord(s, r), impl.ApplyRecord(s, r)
		spoil(got.State.Store)
		spoilHints(got.State.Hints)
		checkState(t, "two answers", kept, want)
		if !slices.Equal(store, longStore(30)) || !slices.Equal(hints, longHints(8)) {
			t.Fatalf("what comes of %v shares memory with the state", r)
		}
		checkState(t, "asked again", impl.ApplyRecord(s, r), want)
		spoil(store)
		spoilHints(hints)
		checkState(t, "the state was spoiled", kept, want)
	}
}

func TestWhatDisksSayIsNewMemory(t *testing.T) {
	list := someRecords()
	for size := range len(list) + 1 {
		disk := diskOf(list[:size]...)
		room := append(bytes.Clone(disk), 4, 7, 0, 0)
		got, kept := impl.RecoverDisk(room[:len(disk)]), impl.RecoverDisk(room[:len(disk)])
		spoil(got.State.Store)
		spoilHints(got.State.Hints)
		records := got.Records[:cap(got.Records)]
		for i := range records {
			records[i] = impl.Record{Kind: math.MaxInt64}
		}
		if !bytes.Equal(room[:len(disk)], disk) {
			t.Fatal("what a disk says shares memory with it")
		}
		fill(room)
		if !slices.Equal(kept.Records, list[:size]) || !isState(kept.State, stateOf(t, list[:size]...)) {
			t.Fatalf("%d records: what was said changes: %v", size, kept)
		}
		checkSaid(t, "said again", disk, list[:size]...)
	}
}
