package tests

import (
	"bytes"
	"math"
	"slices"
	"testing"

	"loop.example/g00791/impl"
)

// plainSampleFault tells of the bounds as the document writes them.
func plainSampleFault(x impl.Sample) int64 {
	switch {
	case x.Series < 0 || x.Series > 9,
		x.Time < 0 || x.Time > 999,
		x.Id < 0 || x.Id > 9999,
		x.Value < -1000 || x.Value > 1000:
		return impl.ErrRange
	}
	return impl.OK
}

// plainBytes are the bytes of a sample that has no fault, by divisions.
func plainBytes(x impl.Sample) []byte {
	return []byte{
		byte(x.Series),
		byte(x.Time % 256), byte(x.Time / 256),
		byte(x.Id % 256), byte(x.Id / 256),
		byte((x.Value + 1000) % 256), byte((x.Value + 1000) / 256),
	}
}

// endSamples have each field at both its ends, next to them and between them.
func endSamples() []impl.Sample {
	var list []impl.Sample
	for _, series := range []int64{0, 1, 8, 9} {
		for _, time := range []int64{0, 1, 255, 256, 998, 999} {
			for _, id := range []int64{0, 1, 255, 256, 9998, 9999} {
				for _, value := range []int64{-1000, -999, -745, -744, -1, 0, 1, 999, 1000} {
					list = append(list, impl.Sample{Series: series, Time: time, Id: id, Value: value})
				}
			}
		}
	}
	return list
}

// withField is the sample with another number in the field that i counts.
func withField(x impl.Sample, i int, n int64) impl.Sample {
	switch i {
	case 0:
		x.Series = n
	case 1:
		x.Time = n
	case 2:
		x.Id = n
	case 3:
		x.Value = n
	}
	return x
}

// faultySamples have one field that leaves its bounds, or several.
func faultySamples() []impl.Sample {
	whole := []impl.Sample{
		{},
		{Series: 1, Time: 2, Id: 3, Value: 4},
		{Series: 9, Time: 999, Id: 9999, Value: 1000},
		{Value: -1000},
	}
	bounds := [][2]int64{{0, 9}, {0, 999}, {0, 9999}, {-1000, 1000}}
	var list []impl.Sample
	for _, x := range whole {
		for i, b := range bounds {
			for _, n := range []int64{
				b[0] - 1, b[1] + 1, b[0] - 65536, b[1] + 65536, b[0] + 1<<32,
				math.MinInt64, math.MinInt64 + 1000, math.MaxInt64, math.MaxInt64 - 999,
			} {
				list = append(list, withField(x, i, n))
			}
		}
	}
	return append(list,
		impl.Sample{Series: 10, Time: 1000, Id: 10000, Value: 1001},
		impl.Sample{Series: -1, Time: -1, Id: -1, Value: -1001},
		impl.Sample{Series: -1, Time: 1000, Id: -1, Value: 1001},
	)
}

// checkSample asks that data are the bytes of just this sample.
func checkSample(t *testing.T, data []byte, want impl.Sample) {
	t.Helper()
	if got := impl.DecodeSample(data); got.Code != impl.OK || got.Sample != want {
		t.Errorf("DecodeSample(%v) = %v; want %v", data, got, want)
	}
}

// checkNoSample asks that data are told with this code alone.
func checkNoSample(t *testing.T, data []byte, code int64) {
	t.Helper()
	if got := impl.DecodeSample(data); got != (impl.SampleResult{Code: code}) {
		t.Errorf("DecodeSample(%v) = %v; want the code %d alone", data, got, code)
	}
}

func TestSampleConstants(t *testing.T) {
	got := []int64{impl.MaxSeries, impl.MaxTime, impl.MaxId, impl.MaxValue, impl.SampleSize}
	if !slices.Equal(got, []int64{9, 999, 9999, 1000, 7}) {
		t.Error("the constants are", got)
	}
}

func TestSampleFault(t *testing.T) {
	for _, x := range endSamples() {
		if got := impl.SampleFault(x); got != impl.OK {
			t.Errorf("SampleFault(%v) = %d; want none", x, got)
		}
	}
	for _, x := range faultySamples() {
		if got := impl.SampleFault(x); got != impl.ErrRange {
			t.Errorf("SampleFault(%v) = %d; want ErrRange", x, got)
		}
	}
}

func TestEncodeSample(t *testing.T) {
	for _, c := range []struct {
		x    impl.Sample
		want []byte
	}{
		{impl.Sample{Series: 1, Time: 2, Id: 3, Value: 4}, []byte{1, 2, 0, 3, 0, 236, 3}},
		{impl.Sample{}, []byte{0, 0, 0, 0, 0, 232, 3}},
		{impl.Sample{Value: -1000}, []byte{0, 0, 0, 0, 0, 0, 0}},
		{impl.Sample{Value: -999}, []byte{0, 0, 0, 0, 0, 1, 0}},
		{impl.Sample{Value: -745}, []byte{0, 0, 0, 0, 0, 255, 0}},
		{impl.Sample{Value: -744}, []byte{0, 0, 0, 0, 0, 0, 1}},
		{impl.Sample{Value: -1}, []byte{0, 0, 0, 0, 0, 231, 3}},
		{impl.Sample{Value: 1000}, []byte{0, 0, 0, 0, 0, 208, 7}},
		{impl.Sample{Series: 9}, []byte{9, 0, 0, 0, 0, 232, 3}},
		{impl.Sample{Time: 256}, []byte{0, 0, 1, 0, 0, 232, 3}},
		{impl.Sample{Time: 999}, []byte{0, 231, 3, 0, 0, 232, 3}},
		{impl.Sample{Id: 256}, []byte{0, 0, 0, 0, 1, 232, 3}},
		{impl.Sample{Id: 9999}, []byte{0, 0, 0, 15, 39, 232, 3}},
		{impl.Sample{Series: 9, Time: 999, Id: 9999, Value: 1000}, []byte{9, 231, 3, 15, 39, 208, 7}},
	} {
		got := impl.EncodeSample(c.x)
		if got.Code != impl.OK || !bytes.Equal(got.Bytes, c.want) {
			t.Errorf("EncodeSample(%v) = %v; want %v", c.x, got, c.want)
		}
	}
	for _, x := range endSamples() {
		if got := impl.EncodeSample(x); got.Code != impl.OK || !bytes.Equal(got.Bytes, plainBytes(x)) {
			t.Errorf("EncodeSample(%v) = %v; want %v", x, got, plainBytes(x))
		}
	}
	for _, x := range faultySamples() {
		if got := impl.EncodeSample(x); got.Code != impl.ErrRange || len(got.Bytes) != 0 {
			t.Errorf("EncodeSample(%v) = %v; want ErrRange alone", x, got)
		}
	}
}

func TestDecodeSample(t *testing.T) {
	checkSample(t, []byte{1, 2, 0, 3, 0, 236, 3}, impl.Sample{Series: 1, Time: 2, Id: 3, Value: 4})
	checkSample(t, []byte{0, 0, 0, 0, 0, 0, 0}, impl.Sample{Value: -1000})
	checkSample(t, []byte{0, 0, 0, 0, 0, 232, 3}, impl.Sample{})
	checkSample(t, []byte{9, 231, 3, 15, 39, 208, 7}, impl.Sample{Series: 9, Time: 999, Id: 9999, Value: 1000})
	for _, data := range [][]byte{
		{10, 231, 3, 15, 39, 208, 7},
		{9, 232, 3, 15, 39, 208, 7},
		{9, 231, 4, 15, 39, 208, 7},
		{9, 231, 3, 16, 39, 208, 7},
		{9, 231, 3, 15, 40, 208, 7},
		{9, 231, 3, 15, 39, 209, 7},
		{9, 231, 3, 15, 39, 208, 8},
		{10, 0, 0, 0, 0, 0, 0},
		{255, 0, 0, 0, 0, 0, 0},
		{0, 0, 4, 0, 0, 0, 0},
		{0, 0, 0, 0, 40, 0, 0},
		{0, 0, 0, 0, 0, 0, 8},
		{255, 255, 255, 255, 255, 255, 255},
	} {
		checkNoSample(t, data, impl.ErrText)
	}
	// How many bytes there are is asked ahead of what they tell.
	for _, size := range []int{0, 1, 2, 3, 5, 6, 8, 9, 13, 14, 263, impl.MaxDisk + 1} {
		for _, b := range []byte{0, 1, 255} {
			checkNoSample(t, bytes.Repeat([]byte{b}, size), impl.ErrMany)
		}
	}
	checkNoSample(t, nil, impl.ErrMany)
	whole := []byte{1, 2, 0, 3, 0, 236, 3}
	checkNoSample(t, append(bytes.Clone(whole), 0), impl.ErrMany)
	checkNoSample(t, append([]byte{0}, whole...), impl.ErrMany)
	checkNoSample(t, whole[:6], impl.ErrMany)
	checkNoSample(t, whole[1:], impl.ErrMany)
}

func TestKeys(t *testing.T) {
	for _, c := range []struct {
		what        string
		a, b        impl.Sample
		ahead, same bool
	}{
		{"both zero", impl.Sample{}, impl.Sample{}, false, true},
		{"the same", impl.Sample{Series: 1, Time: 2, Id: 3, Value: 4}, impl.Sample{Series: 1, Time: 2, Id: 3, Value: 4}, false, true},
		{"another value", impl.Sample{Series: 1, Time: 2, Id: 3, Value: 4}, impl.Sample{Series: 1, Time: 2, Id: 3, Value: -4}, false, true},
		{"values at both ends", impl.Sample{Value: -1000}, impl.Sample{Value: 1000}, false, true},
		{"a lower series", impl.Sample{Series: 1}, impl.Sample{Series: 2}, true, false},
		{"a lower time", impl.Sample{Time: 1}, impl.Sample{Time: 2}, true, false},
		{"a lower id", impl.Sample{Id: 1}, impl.Sample{Id: 2}, true, false},
		{"a lower series, all else higher", impl.Sample{Series: 1, Time: 9, Id: 9, Value: 9}, impl.Sample{Series: 2}, true, false},
		{"a lower time, the id higher", impl.Sample{Series: 1, Time: 1, Id: 9, Value: 9}, impl.Sample{Series: 1, Time: 2}, true, false},
		{"a higher series, a lower time and id", impl.Sample{Series: 2}, impl.Sample{Series: 1, Time: 9, Id: 9}, false, false},
		{"a higher time, a lower id", impl.Sample{Time: 2}, impl.Sample{Time: 1, Id: 9}, false, false},
		{"the ends of all numbers", impl.Sample{Series: math.MinInt64}, impl.Sample{Series: math.MaxInt64}, true, false},
		{"the ends of all times", impl.Sample{Time: math.MinInt64}, impl.Sample{Time: math.MaxInt64}, true, false},
		{"the ends of all ids", impl.Sample{Id: math.MinInt64}, impl.Sample{Id: math.MaxInt64}, true, false},
		{"series with a fault", impl.Sample{Series: -1}, impl.Sample{}, true, false},
		{"times with a fault", impl.Sample{Time: 1001}, impl.Sample{Time: 1000}, false, false},
		{"ids with a fault", impl.Sample{Id: 65536}, impl.Sample{}, false, false},
		{"one key with a fault", impl.Sample{Series: 10, Time: -1, Id: 10000, Value: 1}, impl.Sample{Series: 10, Time: -1, Id: 10000, Value: 2000}, false, true},
	} {
		if got := impl.IsAhead(c.a, c.b); got != c.ahead {
			t.Errorf("%s: IsAhead(%v, %v) = %v", c.what, c.a, c.b, got)
		}
		if got := impl.IsSameKey(c.a, c.b); got != c.same {
			t.Errorf("%s: IsSameKey(%v, %v) = %v", c.what, c.a, c.b, got)
		}
	}
}
