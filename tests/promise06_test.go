package tests

import (
	"bytes"
	"math/rand"
	"slices"
	"testing"

	"loop.example/g00791/impl"
)

// Promise 6: records are read back from their bytes; what is put behind a disk
// that is whole is said behind what it said; of what is torn nothing is said.

// checkReadRecord asks that a record is read back from just its bytes.
func checkReadRecord(t *testing.T, r impl.Record) {
	t.Helper()
	packed := impl.EncodeRecord(r)
	if packed.Code != impl.OK || !bytes.Equal(packed.Bytes, plainRecordBytes(r)) {
		t.Fatalf("EncodeRecord(%v) = %v; want %v", r, packed, plainRecordBytes(r))
	}
	checkRecord(t, packed.Bytes, r)
}

func TestRecordsAreReadBack(t *testing.T) {
	for _, r := range endRecords() {
		checkReadRecord(t, r)
	}
	for n := range int64(60001) {
		checkReadRecord(t, impl.Record{Kind: 4, Number: n})
	}
	for n := range int64(10000) {
		checkReadRecord(t, impl.Record{Kind: 3, Node: n % 4, Number: n})
	}
	r := rand.New(rand.NewSource(6))
	for range 20000 {
		x := impl.Sample{Series: r.Int63n(10), Time: r.Int63n(1000), Id: r.Int63n(10000), Value: r.Int63n(2001) - 1000}
		checkReadRecord(t, impl.Record{Kind: 1, Sample: x})
		checkReadRecord(t, impl.Record{Kind: 2, Node: r.Int63n(4), Sample: x})
	}
}

// checkRecordBytes asks that bytes are told just where they are those of a
// record.
func checkRecordBytes(t *testing.T, data []byte) {
	t.Helper()
	want, there := plainRecord(data)
	if !there {
		checkNoRecord(t, data)
		return
	}
	checkRecord(t, data, want)
	if got := impl.EncodeRecord(want); !bytes.Equal(got.Bytes, data) {
		t.Fatalf("%v are read, and then packed as %v", data, got)
	}
}

func TestBytesAreThoseOfOneRecordOrNone(t *testing.T) {
	for a := range 256 {
		checkRecordBytes(t, []byte{byte(a)})
		for b := range 256 {
			checkRecordBytes(t, []byte{4, byte(a), byte(b)})
			checkRecordBytes(t, []byte{3, 3, byte(a), byte(b)})
			checkRecordBytes(t, []byte{byte(a), byte(b), 7, 7})
			checkRecordBytes(t, []byte{byte(a), byte(b), 7})
		}
	}
	r := rand.New(rand.NewSource(66))
	tops := []int{6, 6, 12, 256, 5, 256, 41, 256, 9, 256}
	for range 100000 {
		data := make([]byte, r.Intn(len(tops)+1))
		for i := range data {
			data[i] = byte(r.Intn(tops[i]))
		}
		checkRecordBytes(t, data)
	}
	for _, whole := range []impl.Record{{Kind: 1, Sample: impl.Sample{Series: 4, Time: 500, Id: 5000, Value: 7}}, {Kind: 2, Node: 2, Sample: impl.Sample{Series: 4, Time: 500, Id: 5000, Value: 7}}} {
		for at := range plainRecordBytes(whole) {
			for b := range 256 {
				data := plainRecordBytes(whole)
				data[at] = byte(b)
				checkRecordBytes(t, data)
			}
		}
	}
}

// recordFrame is the frame of a record, by the bytes and the sum that are told
// another way.
func recordFrame(r impl.Record) []byte {
	return rawFrame(plainRecordBytes(r))
}

func diskOf(records ...impl.Record) []byte {
	var disk []byte
	for _, r := range records {
		disk = append(disk, recordFrame(r)...)
	}
	return disk
}

// stateOf is what comes of records that can all be applied, one behind the
// other.
func stateOf(t *testing.T, records ...impl.Record) impl.State {
	t.Helper()
	var s impl.State
	for _, r := range records {
		next, code := plainApply(s, r)
		if code != impl.OK {
			t.Fatalf("%v cannot be applied to %v", r, s)
		}
		s = next
	}
	return s
}

// checkSaid asks that the disk says these records, what comes of them, and
// nothing else.
func checkSaid(t *testing.T, what string, disk []byte, records ...impl.Record) {
	t.Helper()
	got := impl.RecoverDisk(disk)
	size := int64(len(diskOf(records...)))
	if got.Code != impl.OK || got.Size != size || !slices.Equal(got.Records, records) || !isState(got.State, stateOf(t, records...)) {
		t.Fatalf("%s: %v; want the size %d, the records %v and the state %v", what, got, size, records, stateOf(t, records...))
	}
}

// plainSaid are the records that a disk says, by the ways that the tests have
// of their own.
func plainSaid(disk []byte) []impl.Record {
	var records []impl.Record
	var s impl.State
	for _, body := range plainRead(disk) {
		r, there := plainRecord(body)
		next, code := plainApply(s, r)
		if !there || code != impl.OK {
			break
		}
		s, records = next, append(records, r)
	}
	return records
}

// someRecords can be applied in this order.
func someRecords() []impl.Record {
	x := impl.Sample{Series: 1, Time: 2, Id: 3, Value: 4}
	return []impl.Record{
		{Kind: 4, Number: 1},
		{Kind: 1, Sample: x},
		{Kind: 2, Node: 2, Sample: x},
		{Kind: 2, Node: 1, Sample: x},
		{Kind: 3, Node: 2, Number: 3},
		{Kind: 1, Sample: impl.Sample{Value: -1000}},
		{Kind: 4, Number: 1},
		{Kind: 1, Sample: withField(x, 3, 5)},
		{Kind: 2, Node: 2, Sample: x},
		{Kind: 4, Number: 60000},
		{Kind: 3, Node: 1, Number: 3},
		{Kind: 3, Node: 2, Number: 3},
	}
}

func TestRecoverDisk(t *testing.T) {
	checkSaid(t, "nil", nil)
	checkSaid(t, "empty", []byte{})
	for _, r := range endRecords() {
		if r.Kind != 3 {
			checkSaid(t, "one record", recordFrame(r), r)
		}
	}
	list := someRecords()
	for size := range len(list) + 1 {
		checkSaid(t, "some records", diskOf(list[:size]...), list[:size]...)
	}
	// What the program packs itself.
	var disk []byte
	for _, r := range list {
		disk = append(disk, impl.PackFrame(impl.EncodeRecord(r).Bytes).Bytes...)
	}
	checkSaid(t, "packed", disk, list...)
}

func TestDiskEndsWithWhatIsNoRecord(t *testing.T) {
	list := someRecords()
	for _, c := range []struct {
		what string
		body []byte
	}{
		{"no kind", []byte{0}},
		{"another kind", []byte{5, 0, 0}},
		{"a kind alone", []byte{4}},
		{"one byte more", []byte{4, 7, 7, 0}},
		{"one byte less", []byte{3, 2, 3}},
		{"a node out of bounds", []byte{3, 4, 3, 0}},
		{"a life out of bounds", []byte{4, 97, 234}},
		{"a sample out of bounds", []byte{1, 10, 2, 0, 3, 0, 236, 3}},
		{"the longest body", bodyOf(40, 7)},
	} {
		if _, there := plainRecord(c.body); there {
			t.Fatal(c.what, "is a record")
		}
		checkSaid(t, c.what, rawFrame(c.body))
		for size := range len(list) + 1 {
			disk := slices.Concat(diskOf(list[:size]...), rawFrame(c.body), diskOf(list[size:]...))
			checkSaid(t, c.what, disk, list[:size]...)
		}
	}
}

func TestDiskEndsWithWhatCannotBeApplied(t *testing.T) {
	x := impl.Sample{Series: 1, Time: 2, Id: 3, Value: 4}
	life, owed := impl.Record{Kind: 4, Number: 7}, impl.Record{Kind: 2, Node: 2, Sample: x}
	var samples, hints []impl.Record
	for _, y := range longStore(160) {
		samples = append(samples, impl.Record{Kind: 1, Sample: y})
	}
	for _, h := range longHints(8) {
		hints = append(hints, impl.Record{Kind: 2, Node: h.Node, Sample: h.Sample})
	}
	for _, c := range []struct {
		what  string
		ahead []impl.Record
		bad   impl.Record
		code  int64
	}{
		{"a done one that was not there", nil, impl.Record{Kind: 3, Node: 2, Number: 3}, impl.ErrNone},
		{"a done one of another node", []impl.Record{owed}, impl.Record{Kind: 3, Node: 1, Number: 3}, impl.ErrNone},
		{"a done one of another Id", []impl.Record{owed}, impl.Record{Kind: 3, Node: 2, Number: 4}, impl.ErrNone},
		{"a done one for the second time", []impl.Record{owed, {Kind: 3, Node: 2, Number: 3}}, impl.Record{Kind: 3, Node: 2, Number: 3}, impl.ErrNone},
		{"a done one of a sample", []impl.Record{{Kind: 1, Sample: x}}, impl.Record{Kind: 3, Number: 3}, impl.ErrNone},
		{"a hint that is there", []impl.Record{owed}, owed, impl.ErrTaken},
		{"a hint of full ones", hints, owed, impl.ErrFull},
		{"a sample of a full store", samples, impl.Record{Kind: 1}, impl.ErrFull},
		{"a life that goes down", []impl.Record{life}, impl.Record{Kind: 4, Number: 6}, impl.ErrState},
		{"a life that goes down to 0", []impl.Record{life, life}, impl.Record{Kind: 4}, impl.ErrState},
	} {
		if _, code := plainApply(stateOf(t, c.ahead...), c.bad); code != c.code {
			t.Fatal(c.what, "has the code", code)
		}
		behind := diskOf(impl.Record{Kind: 4, Number: 9}, impl.Record{Kind: 1, Sample: longStore(160)[3]})
		disk := slices.Concat(diskOf(c.ahead...), recordFrame(c.bad))
		checkSaid(t, c.what, diskOf(c.ahead...), c.ahead...)
		checkSaid(t, c.what, disk, c.ahead...)
		checkSaid(t, c.what+", with more behind it", slices.Concat(disk, behind), c.ahead...)
		checkNoState(t, c.what, impl.ApplyRecord(impl.RecoverDisk(disk).State, c.bad), c.code)
	}
}

// nearRecord is a record of few numbers, so that many of them do not fit.
func nearRecord(r *rand.Rand) impl.Record {
	switch kind := 1 + r.Int63n(4); kind {
	case 1:
		return impl.Record{Kind: kind, Sample: nearHintSample(r)}
	case 2:
		return impl.Record{Kind: kind, Node: r.Int63n(4), Sample: nearHintSample(r)}
	case 3:
		return impl.Record{Kind: kind, Node: r.Int63n(4), Number: r.Int63n(4)}
	default:
		return impl.Record{Kind: kind, Number: r.Int63n(30)}
	}
}

func TestWhatIsPutBehindIsSaidBehind(t *testing.T) {
	r := rand.New(rand.NewSource(606))
	met := map[int64]int{}
	for range 60 {
		var disk []byte
		var said []impl.Record
		var s impl.State
		for range 60 {
			x := nearRecord(r)
			_, code := plainApply(s, x)
			met[code]++
			s = checkApply(t, s, x)
			if code != impl.OK {
				checkSaid(t, "what cannot be applied", slices.Concat(disk, recordFrame(x)), said...)
				continue
			}
			met[-x.Kind]++
			disk, said = append(disk, recordFrame(x)...), append(said, x)
			checkSaid(t, "put behind", disk, said...)
		}
		if got := impl.RecoverDisk(disk); !impl.SameStates(got.State, s) || got.Size != int64(len(disk)) {
			t.Fatalf("the disk says %v; the records came to %v", got, s)
		}
	}
	for _, what := range []int64{impl.ErrNone, impl.ErrTaken, impl.ErrFull, impl.ErrState, -1, -2, -3, -4} {
		if met[what] < 20 {
			t.Error("not all is met:", met)
		}
	}
}

func TestOfWhatIsTornNothingIsSaid(t *testing.T) {
	list := someRecords()
	disk := diskOf(list...)
	var ends []int
	for size := range list {
		ends = append(ends, len(diskOf(list[:size+1]...)))
	}
	for cut := range len(disk) + 1 {
		whole := 0
		for whole < len(ends) && ends[whole] <= cut {
			whole++
		}
		// Once cut off clean, once with the rest in memory behind the end.
		checkSaid(t, "torn", bytes.Clone(disk[:cut]), list[:whole]...)
		checkSaid(t, "torn", disk[:cut], list[:whole]...)
		if whole == len(list) {
			continue
		}
		// What is torn is cut off: what is put there then is said.
		rest := disk[:impl.RecoverDisk(disk[:cut]).Size]
		for next := whole; next < len(list); next++ {
			rest = slices.Concat(rest, recordFrame(list[next]))
			checkSaid(t, "behind what was torn", rest, list[:next+1]...)
		}
	}
}

func TestOfWhatWasTurnedNothingIsSaid(t *testing.T) {
	list := someRecords()
	at := 0
	for whole, r := range list {
		for bit := range 8 * len(recordFrame(r)) {
			disk := diskOf(list...)
			disk[at+bit/8] ^= 1 << (bit % 8)
			checkSaid(t, "turned", disk, list[:whole]...)
		}
		at += len(recordFrame(r))
	}
}

func TestMixedDisksOfRecords(t *testing.T) {
	r := rand.New(rand.NewSource(6666))
	for range 3000 {
		var disk []byte
		for range r.Intn(12) {
			if r.Intn(15) == 0 {
				disk = append(disk, rawFrame(bodyOf(r.Intn(12), r.Int63()))...)
			}
			disk = append(disk, recordFrame(nearRecord(r))...)
		}
		if len(disk) > 0 && r.Intn(3) == 0 {
			disk[r.Intn(len(disk))] ^= byte(1 + r.Intn(255))
		}
		disk = disk[:len(disk)-r.Intn(1+len(disk)/3)]
		checkSaid(t, "mixed", disk, plainSaid(disk)...)
	}
}

// fullDisk has just so many bytes; its first records are those of a full
// store, and lives that do not go down are the others.
func fullDisk(size int) ([]byte, []impl.Record) {
	var records []impl.Record
	left := size
	for _, x := range longStore(160) {
		records = append(records, impl.Record{Kind: 1, Sample: x})
		left -= 11
	}
	// The frame of a life has 6 bytes, that of a sample 11.
	for left%6 != 0 {
		records = append(records, impl.Record{Kind: 1, Sample: longStore(1)[0]})
		left -= 11
	}
	for i := range int64(left / 6) {
		records = append(records, impl.Record{Kind: 4, Number: i / 2})
	}
	return diskOf(records...), records
}

func TestFullDiskOfRecords(t *testing.T) {
	for _, size := range []int{impl.MaxDisk - 1, impl.MaxDisk} {
		disk, records := fullDisk(size)
		if len(disk) != size {
			t.Fatal("a disk of", len(disk), "bytes")
		}
		checkSaid(t, "full", disk, records...)
	}
	same := impl.Record{Kind: 1, Sample: impl.Sample{Id: 5}}
	records := slices.Repeat([]impl.Record{same}, impl.MaxDisk/11)
	checkSaid(t, "one sample often", diskOf(records...), records...)
	over, _ := fullDisk(impl.MaxDisk + 1)
	for _, disk := range [][]byte{over, make([]byte, impl.MaxDisk+1), make([]byte, 3*impl.MaxDisk)} {
		got := impl.RecoverDisk(disk)
		if got.Code != impl.ErrMany || !isState(got.State, impl.State{}) || len(got.Records) != 0 || got.Size != 0 {
			t.Errorf("RecoverDisk of %d bytes has code %d, %d records, size %d; want ErrMany alone", len(disk), got.Code, len(got.Records), got.Size)
		}
	}
	checkSaid(t, "zeros", make([]byte, impl.MaxDisk))
}
