package tests

import (
	"bytes"
	"reflect"
	"testing"

	"loop.example/g00791/impl"
)

// Promise 1, of the functions of chapter 2.

// oddSamples have one odd number in a field, or the same one in all.
func oddSamples() []impl.Sample {
	list := append(endSamples()[:50], faultySamples()...)
	for _, n := range oddNumbers() {
		for i := range 4 {
			list = append(list, withField(impl.Sample{}, i, n), withField(impl.Sample{Series: 9, Time: 999, Id: 9999, Value: 1000}, i, n))
		}
		list = append(list, impl.Sample{Series: n, Time: n, Id: n, Value: n})
	}
	return list
}

func oddSampleBytes() [][]byte {
	list := oddBytes()
	for size := range 2*impl.SampleSize + 1 {
		list = append(list, make([]byte, size), bytes.Repeat([]byte{1}, size), bytes.Repeat([]byte{255}, size))
	}
	for _, x := range endSamples()[:50] {
		list = append(list, plainBytes(x))
	}
	return list
}

// samplesOfAll asks the functions of samples one argument each; the answers
// are held against one another.
func samplesOfAll(x impl.Sample) []any {
	other := impl.Sample{Series: 5, Time: 500, Id: 5000, Value: 5}
	return []any{
		impl.SampleFault(x),
		impl.EncodeSample(x),
		impl.IsAhead(x, other),
		impl.IsAhead(other, x),
		impl.IsAhead(x, x),
		impl.IsSameKey(x, other),
		impl.IsSameKey(x, x),
	}
}

func TestSamplesAnswerAtEveryArgument(t *testing.T) {
	for _, x := range oddSamples() {
		fault := plainSampleFault(x)
		if got := impl.SampleFault(x); got != fault {
			t.Fatalf("SampleFault(%v) = %d; want %d", x, got, fault)
		}
		got := impl.EncodeSample(x)
		if got.Code != fault || fault != impl.OK && len(got.Bytes) != 0 || fault == impl.OK && !bytes.Equal(got.Bytes, plainBytes(x)) {
			t.Fatalf("EncodeSample(%v) = %v", x, got)
		}
		if impl.IsAhead(x, x) || !impl.IsSameKey(x, x) {
			t.Fatalf("%v is held against itself: ahead %v, one key %v", x, impl.IsAhead(x, x), impl.IsSameKey(x, x))
		}
	}
	for _, data := range oddSampleBytes() {
		if len(data) == impl.SampleSize {
			checkBytes(t, data)
		} else {
			checkNoSample(t, data, impl.ErrMany)
		}
	}
}

func TestSamplesChangeNoArgument(t *testing.T) {
	for _, data := range oddSampleBytes() {
		// What lies in memory behind the argument is not touched, either.
		room := append(bytes.Clone(data), 11, 12, 13, 14)
		kept := bytes.Clone(room)
		impl.DecodeSample(room[:len(data)])
		if !bytes.Equal(room, kept) {
			t.Errorf("an argument of %d bytes was changed", len(data))
		}
	}
}

func TestSamplesHangOnArgumentsAlone(t *testing.T) {
	samples := oddSamples()
	var first [][]any
	for _, x := range samples {
		first = append(first, samplesOfAll(x))
	}
	for i := len(samples) - 1; i >= 0; i-- {
		if again := samplesOfAll(samples[i]); !reflect.DeepEqual(first[i], again) {
			t.Errorf("%v is answered in two ways: %v and %v", samples[i], first[i], again)
		}
	}
	list := oddSampleBytes()
	var read []impl.SampleResult
	for _, data := range list {
		read = append(read, impl.DecodeSample(data))
	}
	for i := len(list) - 1; i >= 0; i-- {
		// Other memory, with other room behind it, in another order.
		same := append(make([]byte, 0, len(list[i])+9), list[i]...)
		if again := impl.DecodeSample(same); again != read[i] {
			t.Errorf("%v is answered in two ways: %v and %v", same, read[i], again)
		}
	}
	if impl.DecodeSample(nil) != impl.DecodeSample([]byte{}) {
		t.Error("nil and an empty list are answered in two ways")
	}
}

func TestSampleBytesAreNewMemory(t *testing.T) {
	for _, x := range endSamples() {
		want := plainBytes(x)
		packed := impl.EncodeSample(x).Bytes
		kept := impl.EncodeSample(x).Bytes
		fill(packed)
		// Held ahead of the next call, which could put the same bytes there again.
		if !bytes.Equal(kept, want) {
			t.Fatalf("EncodeSample(%v) answers twice with one memory", x)
		}
		if again := impl.EncodeSample(x).Bytes; !bytes.Equal(again, want) {
			t.Fatalf("EncodeSample(%v) answers memory that it keeps: %v", x, again)
		}
		impl.EncodeSample(impl.Sample{Series: 5, Time: 555, Id: 5555, Value: 555})
		if !bytes.Equal(kept, want) {
			t.Fatalf("the bytes of %v change when others are asked for", x)
		}
	}
}
