package tests

import (
	"bytes"
	"math"
	"math/rand"
	"slices"
	"testing"

	"loop.example/g00791/impl"
)

// divisionSum tells the sum by a long division of the bits, the first sixteen
// of them turned: another way than the one of the program.
func divisionSum(data []byte) int64 {
	var bits []int
	for _, b := range data {
		for i := 7; i >= 0; i-- {
			bits = append(bits, int(b>>i&1))
		}
	}
	bits = append(bits, make([]int, 16)...)
	for i := range 16 {
		bits[i] ^= 1
	}
	divisor := []int{1, 0, 0, 0, 1, 0, 0, 0, 0, 0, 0, 1, 0, 0, 0, 0, 1}
	for i := range len(bits) - 16 {
		if bits[i] == 0 {
			continue
		}
		for j, d := range divisor {
			bits[i+j] ^= d
		}
	}
	sum := int64(0)
	for _, b := range bits[len(bits)-16:] {
		sum = 2*sum + int64(b)
	}
	return sum
}

// rawFrame is the frame of a body of any length, even of one that is not allowed.
func rawFrame(body []byte) []byte {
	frame := append([]byte{byte(len(body))}, body...)
	sum := divisionSum(frame)
	return append(frame, byte(sum/256), byte(sum%256))
}

func bodyOf(size int, seed int64) []byte {
	body := make([]byte, size)
	rand.New(rand.NewSource(seed)).Read(body)
	return body
}

// checkFrames asks that the disk has just these bodies, and then no more frames.
func checkFrames(t *testing.T, what string, disk []byte, bodies ...[]byte) {
	t.Helper()
	got := impl.ReadFrames(disk)
	size := int64(0)
	for _, b := range bodies {
		size += int64(len(b)) + 3
	}
	if got.Code != impl.OK || got.Size != size || len(got.Bodies) != len(bodies) {
		t.Fatalf("%s: code %d, size %d and %d bodies; want size %d and %d bodies", what, got.Code, got.Size, len(got.Bodies), size, len(bodies))
	}
	for i, b := range bodies {
		if !bytes.Equal(got.Bodies[i], b) {
			t.Fatalf("%s: body %d is %v; want %v", what, i, got.Bodies[i], b)
		}
	}
}

func TestFrameConstants(t *testing.T) {
	got := []int64{impl.OK, impl.ErrForm, impl.ErrMany, impl.ErrRange, impl.ErrNone, impl.ErrText, impl.ErrTaken, impl.ErrFull, impl.ErrState, impl.MaxBody, impl.MaxDisk}
	if !slices.Equal(got, []int64{0, 1, 2, 3, 4, 5, 6, 7, 8, 40, 20000}) {
		t.Error("the constants are", got)
	}
}

func TestPackWord(t *testing.T) {
	for _, c := range []struct {
		n, size int64
		want    []byte
	}{
		{0, 1, []byte{0}},
		{255, 1, []byte{255}},
		{0, 2, []byte{0, 0}},
		{256, 2, []byte{0, 1}},
		{513, 2, []byte{1, 2}},
		{65535, 2, []byte{255, 255}},
		{258, 3, []byte{2, 1, 0}},
		{65536, 3, []byte{0, 0, 1}},
		{16777215, 3, []byte{255, 255, 255}},
		{16777216, 4, []byte{0, 0, 0, 1}},
		{67305985, 4, []byte{1, 2, 3, 4}},
		{4294967295, 4, []byte{255, 255, 255, 255}},
	} {
		got := impl.PackWord(c.n, c.size)
		if got.Code != impl.OK || !bytes.Equal(got.Bytes, c.want) {
			t.Errorf("PackWord(%d, %d) = %v; want %v", c.n, c.size, got, c.want)
		}
	}
	for _, c := range [][2]int64{
		{0, 0}, {0, 5}, {0, -1}, {0, 8}, {0, math.MinInt64}, {0, math.MaxInt64},
		{-1, 1}, {-1, 4}, {math.MinInt64, 4}, {-1, 0},
		{256, 1}, {65536, 2}, {16777216, 3}, {4294967296, 4}, {math.MaxInt64, 4}, {math.MaxInt64, 5},
	} {
		got := impl.PackWord(c[0], c[1])
		if got.Code != impl.ErrRange || len(got.Bytes) != 0 {
			t.Errorf("PackWord(%d, %d) = %v; want ErrRange alone", c[0], c[1], got)
		}
	}
}

func TestReadWord(t *testing.T) {
	data := []byte{1, 2, 3, 4, 255}
	for _, c := range []struct{ at, size, want int64 }{
		{0, 1, 1}, {4, 1, 255},
		{0, 2, 513}, {3, 2, 65284},
		{0, 3, 197121}, {2, 3, 16712707},
		{0, 4, 67305985}, {1, 4, 4278452994},
	} {
		got := impl.ReadWord(data, c.at, c.size)
		if got.Code != impl.OK || got.Value != c.want {
			t.Errorf("ReadWord(%v, %d, %d) = %v; want %d", data, c.at, c.size, got, c.want)
		}
	}
	for _, c := range [][2]int64{
		{0, 0}, {0, 5}, {0, -1}, {0, math.MinInt64}, {0, math.MaxInt64}, {5, 0},
		{-1, 1}, {-1, 2}, {math.MinInt64, 1}, {math.MinInt64, 4}, {math.MinInt64, math.MinInt64},
		{5, 1}, {6, 1}, {4, 2}, {3, 3}, {2, 4},
		{math.MaxInt64, 1}, {math.MaxInt64, 4}, {math.MaxInt64 - 3, 4}, {math.MaxInt64, math.MaxInt64},
	} {
		got := impl.ReadWord(data, c[0], c[1])
		if got.Code != impl.ErrRange || got.Value != 0 {
			t.Errorf("ReadWord(%v, %d, %d) = %v; want ErrRange alone", data, c[0], c[1], got)
		}
	}
	for size := int64(1); size <= 4; size++ {
		for _, none := range [][]byte{nil, {}, data[:size-1]} {
			if got := impl.ReadWord(none, 0, size); got.Code != impl.ErrRange || got.Value != 0 {
				t.Errorf("ReadWord(%v, 0, %d) = %v; want ErrRange alone", none, size, got)
			}
		}
	}
}

func TestWordsAreReadBack(t *testing.T) {
	for size := int64(1); size <= 4; size++ {
		for bit := int64(0); bit < 8*size; bit++ {
			for _, n := range []int64{1 << bit, 1<<bit - 1, 1<<(bit+1) - 1} {
				word := impl.PackWord(n, size).Bytes
				data := append(append([]byte{9}, word...), 9)
				if got := impl.ReadWord(data, 1, size); got.Code != impl.OK || got.Value != n || int64(len(word)) != size {
					t.Errorf("%d in %d bytes is %v, and read back as %v", n, size, word, got)
				}
			}
		}
	}
}

func TestSumOf(t *testing.T) {
	for _, c := range []struct {
		data []byte
		want int64
	}{
		{nil, 65535},
		{[]byte{}, 65535},
		{[]byte("123456789"), 10673},
	} {
		if got := impl.SumOf(c.data); got.Code != impl.OK || got.Value != c.want {
			t.Errorf("SumOf(%v) = %v; want %d", c.data, got, c.want)
		}
	}
	for b := range 256 {
		data := []byte{byte(b)}
		if got := impl.SumOf(data); got.Code != impl.OK || got.Value != divisionSum(data) {
			t.Errorf("SumOf(%v) = %v; want %d", data, got, divisionSum(data))
		}
	}
	for _, size := range []int{2, 3, 17, 41, 300, impl.MaxDisk - 1, impl.MaxDisk} {
		data := bodyOf(size, int64(size))
		if got := impl.SumOf(data); got.Code != impl.OK || got.Value != divisionSum(data) {
			t.Errorf("SumOf of %d bytes = %v; want %d", size, got, divisionSum(data))
		}
	}
	for _, size := range []int{impl.MaxDisk + 1, 2 * impl.MaxDisk, 65536} {
		if got := impl.SumOf(make([]byte, size)); got.Code != impl.ErrMany || got.Value != 0 {
			t.Errorf("SumOf of %d bytes = %v; want ErrMany alone", size, got)
		}
	}
}

func TestPackFrame(t *testing.T) {
	for size := 1; size <= impl.MaxBody; size++ {
		for _, body := range [][]byte{bodyOf(size, int64(size)), make([]byte, size), bytes.Repeat([]byte{255}, size)} {
			got := impl.PackFrame(body)
			if got.Code != impl.OK || !bytes.Equal(got.Bytes, rawFrame(body)) {
				t.Errorf("PackFrame(%v) = %v; want %v", body, got, rawFrame(body))
			}
		}
	}
	for b := range 256 {
		body := []byte{byte(b)}
		if got := impl.PackFrame(body); got.Code != impl.OK || !bytes.Equal(got.Bytes, rawFrame(body)) {
			t.Errorf("PackFrame(%v) = %v; want %v", body, got, rawFrame(body))
		}
	}
	// 256 and 1 together are 1 in a byte: the length is asked ahead of that.
	for _, size := range []int{0, impl.MaxBody + 1, 255, 256, 257, 256 + impl.MaxBody, impl.MaxDisk + 1} {
		if got := impl.PackFrame(make([]byte, size)); got.Code != impl.ErrMany || len(got.Bytes) != 0 {
			t.Errorf("PackFrame of %d bytes = %v; want ErrMany alone", size, got)
		}
	}
	if got := impl.PackFrame(nil); got.Code != impl.ErrMany || len(got.Bytes) != 0 {
		t.Errorf("PackFrame(nil) = %v; want ErrMany alone", got)
	}
}

func TestSameBytes(t *testing.T) {
	for _, c := range []struct {
		a, b []byte
		want bool
	}{
		{nil, nil, true},
		{nil, []byte{}, true},
		{[]byte{}, nil, true},
		{[]byte{0}, []byte{0}, true},
		{[]byte{1, 2, 3}, []byte{1, 2, 3}, true},
		{nil, []byte{0}, false},
		{[]byte{0}, nil, false},
		{[]byte{1, 2}, []byte{2, 1}, false},
		{[]byte{1, 2}, []byte{1, 2, 3}, false},
		{[]byte{1, 2, 3}, []byte{1, 2}, false},
		{[]byte{1, 2, 3}, []byte{1, 2, 4}, false},
		{[]byte{1, 2, 3}, []byte{0, 2, 3}, false},
		{make([]byte, 30000), make([]byte, 30000), true},
		{make([]byte, 30000), make([]byte, 30001), false},
	} {
		if got := impl.SameBytes(c.a, c.b); got != c.want {
			t.Errorf("SameBytes of %d and %d bytes = %v; want %v", len(c.a), len(c.b), got, c.want)
		}
	}
}
