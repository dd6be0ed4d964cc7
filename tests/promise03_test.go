package tests

import (
	"bytes"
	"math"
	"math/rand"
	"testing"

	"loop.example/g00791/impl"
)

// Promise 3: samples are read back from their bytes; of two one is ahead, or
// both have one key.

func checkReadBack(t *testing.T, x impl.Sample) {
	t.Helper()
	packed := impl.EncodeSample(x)
	if packed.Code != impl.OK || len(packed.Bytes) != impl.SampleSize {
		t.Fatalf("EncodeSample(%v) = %v", x, packed)
	}
	checkSample(t, packed.Bytes, x)
}

func TestSamplesAreReadBack(t *testing.T) {
	for _, x := range endSamples() {
		checkReadBack(t, x)
	}
	middle := impl.Sample{Series: 4, Time: 500, Id: 5000, Value: 7}
	bounds := [][2]int64{{0, 9}, {0, 999}, {0, 9999}, {-1000, 1000}}
	for i, b := range bounds {
		for n := b[0]; n <= b[1]; n++ {
			checkReadBack(t, withField(middle, i, n))
		}
	}
	r := rand.New(rand.NewSource(3))
	for range 20000 {
		checkReadBack(t, impl.Sample{Series: r.Int63n(10), Time: r.Int63n(1000), Id: r.Int63n(10000), Value: r.Int63n(2001) - 1000})
	}
}

// checkBytes asks that bytes are told just where they are those of a sample.
func checkBytes(t *testing.T, data []byte) {
	t.Helper()
	x := impl.Sample{
		Series: int64(data[0]),
		Time:   int64(data[1]) + 256*int64(data[2]),
		Id:     int64(data[3]) + 256*int64(data[4]),
		Value:  int64(data[5]) + 256*int64(data[6]) - 1000,
	}
	if plainSampleFault(x) != impl.OK {
		checkNoSample(t, data, impl.ErrText)
		return
	}
	checkSample(t, data, x)
	if got := impl.EncodeSample(impl.DecodeSample(data).Sample); !bytes.Equal(got.Bytes, data) {
		t.Errorf("%v are read, and then packed as %v", data, got)
	}
}

func TestBytesAreThoseOfOneSampleOrNone(t *testing.T) {
	whole := []byte{4, 244, 1, 136, 19, 239, 3}
	for b := range 256 {
		data := bytes.Clone(whole)
		data[0] = byte(b)
		checkBytes(t, data)
	}
	for _, at := range []int{1, 3, 5} {
		for n := range 65536 {
			data := bytes.Clone(whole)
			data[at], data[at+1] = byte(n), byte(n>>8)
			checkBytes(t, data)
		}
	}
	r := rand.New(rand.NewSource(33))
	tops := []int{12, 256, 5, 256, 41, 256, 9}
	for range 50000 {
		data := make([]byte, impl.SampleSize)
		for i, top := range tops {
			data[i] = byte(r.Intn(top))
		}
		checkBytes(t, data)
	}
}

func TestSamplesStandInFrames(t *testing.T) {
	var disk []byte
	list := endSamples()[:200]
	for _, x := range list {
		disk = append(disk, impl.PackFrame(impl.EncodeSample(x).Bytes).Bytes...)
	}
	read := impl.ReadFrames(disk)
	if len(read.Bodies) != len(list) {
		t.Fatal(len(read.Bodies), "bodies of", len(list), "samples")
	}
	for i, x := range list {
		checkSample(t, read.Bodies[i], x)
	}
}

// anySamples have keys within the bounds and far from them.
func anySamples() []impl.Sample {
	var list []impl.Sample
	for _, series := range []int64{math.MinInt64, -1, 0, 9, 10, math.MaxInt64} {
		for _, time := range []int64{math.MinInt64, 0, 256, 999, math.MaxInt64} {
			for _, id := range []int64{math.MinInt64, 0, 1, 9999, math.MaxInt64} {
				for _, value := range []int64{math.MinInt64, 0, math.MaxInt64} {
					list = append(list, impl.Sample{Series: series, Time: time, Id: id, Value: value})
				}
			}
		}
	}
	return list
}

// plainAhead tells who is ahead as the document says it.
func plainAhead(a impl.Sample, b impl.Sample) bool {
	return a.Series < b.Series ||
		a.Series == b.Series && a.Time < b.Time ||
		a.Series == b.Series && a.Time == b.Time && a.Id < b.Id
}

func TestOneIsAheadOrBothHaveOneKey(t *testing.T) {
	list := anySamples()
	for _, a := range list {
		for _, b := range list {
			ahead, behind, same := impl.IsAhead(a, b), impl.IsAhead(b, a), impl.IsSameKey(a, b)
			if ahead != plainAhead(a, b) || same != (a.Series == b.Series && a.Time == b.Time && a.Id == b.Id) {
				t.Fatalf("of %v and %v: ahead %v, one key %v", a, b, ahead, same)
			}
			if same != impl.IsSameKey(b, a) {
				t.Fatalf("%v and %v have one key, or not, as they are asked", a, b)
			}
			count := 0
			for _, so := range []bool{ahead, behind, same} {
				if so {
					count++
				}
			}
			if count != 1 {
				t.Fatalf("of %v and %v: ahead %v, behind %v, one key %v", a, b, ahead, behind, same)
			}
		}
	}
}

// keySamples have keys of small numbers: many of them are alike in part.
func keySamples() []impl.Sample {
	var list []impl.Sample
	for i := range int64(27) {
		list = append(list, impl.Sample{Series: i / 9, Time: i / 3 % 3, Id: i % 3, Value: i})
	}
	return list
}

func TestAheadGoesOn(t *testing.T) {
	list := keySamples()
	for i, a := range list {
		for j, b := range list {
			if impl.IsAhead(a, b) != (i < j) {
				t.Errorf("IsAhead(%v, %v) = %v", a, b, i >= j)
			}
			for _, c := range list {
				if impl.IsAhead(a, b) && impl.IsAhead(b, c) && !impl.IsAhead(a, c) {
					t.Errorf("%v is ahead of %v, and that of %v, but not the first one of the last one", a, b, c)
				}
			}
		}
	}
}

func TestValueIsNoPartOfTheKey(t *testing.T) {
	for _, a := range keySamples() {
		for _, b := range keySamples() {
			for _, value := range []int64{math.MinInt64, -1000, -1, 0, 1000, math.MaxInt64} {
				other := withField(a, 3, value)
				if impl.IsAhead(a, b) != impl.IsAhead(other, b) || impl.IsAhead(b, a) != impl.IsAhead(b, other) || impl.IsSameKey(a, b) != impl.IsSameKey(other, b) {
					t.Fatalf("%v is asked otherwise with the Value %d against %v", a, value, b)
				}
			}
		}
	}
}
