package tests

import (
	"bytes"
	"math"
	"reflect"
	"testing"

	"loop.example/g00791/impl"
)

// Promise 1: every function answers at every argument, ends, and changes none;
// what it answers is new memory; it hangs on the arguments alone.

// oddBytes are arguments with what is empty, small, just at a bound and over it.
func oddBytes() [][]byte {
	list := [][]byte{nil, {}, {0}, {1}, {40}, {41}, {255}, {1, 7}, {2, 7, 8, 0, 0}}
	for _, size := range []int{1, 2, 39, 40, 41, 255, 256, 257} {
		list = append(list, bodyOf(size, int64(size)), rawFrame(bodyOf(size, int64(size))))
	}
	two := append(rawFrame([]byte{7}), rawFrame([]byte{7, 8})...)
	full, _ := filledDisk(impl.MaxDisk)
	over, _ := filledDisk(impl.MaxDisk + 1)
	return append(list, two, two[:len(two)-1], full, over, make([]byte, 100000))
}

func oddNumbers() []int64 {
	list := []int64{math.MinInt64, math.MinInt64 + 1, math.MaxInt64, math.MaxInt64 - 1, math.MaxInt64 - 4}
	for n := int64(-9); n <= 9; n++ {
		list = append(list, n)
	}
	for bit := 4; bit < 63; bit++ {
		list = append(list, 1<<bit-1, 1<<bit, -1<<bit)
	}
	return list
}

// framesOfAll asks the functions of bytes one argument each; the answers are
// held against one another.
func framesOfAll(data []byte) []any {
	return []any{
		impl.SumOf(data),
		impl.PackFrame(data),
		impl.ReadFrames(data),
		impl.ReadWord(data, 0, 1),
		impl.ReadWord(data, 1, 4),
		impl.SameBytes(data, data),
		impl.SameBytes(data, []byte{7}),
	}
}

func TestFramesAnswerAtEveryArgument(t *testing.T) {
	numbers := oddNumbers()
	for _, n := range numbers {
		for _, size := range numbers {
			got := impl.PackWord(n, size)
			ok := size >= 1 && size <= 4 && n >= 0 && n < int64(math.Pow(256, float64(size)))
			if ok != (got.Code == impl.OK) || !ok && (got.Code != impl.ErrRange || len(got.Bytes) != 0) {
				t.Fatalf("PackWord(%d, %d) = %v", n, size, got)
			}
		}
	}
	for _, data := range [][]byte{nil, {}, {1}, {1, 2, 3}, {1, 2, 3, 4, 5, 6, 7, 8}, make([]byte, 30000)} {
		for _, at := range numbers {
			for _, size := range numbers {
				got := impl.ReadWord(data, at, size)
				ok := size >= 1 && size <= 4 && at >= 0 && at <= int64(len(data)) && int64(len(data))-at >= size
				if ok != (got.Code == impl.OK) || !ok && (got.Code != impl.ErrRange || got.Value != 0) {
					t.Fatalf("ReadWord of %d bytes at %d, size %d = %v", len(data), at, size, got)
				}
			}
		}
	}
	for _, data := range oddBytes() {
		framesOfAll(data)
	}
}

func TestFramesChangeNoArgument(t *testing.T) {
	for _, data := range oddBytes() {
		// What lies in memory behind the argument is not touched, either.
		room := append(bytes.Clone(data), 11, 12, 13, 14)
		kept := bytes.Clone(room)
		framesOfAll(room[:len(data)])
		if !bytes.Equal(room, kept) {
			t.Errorf("an argument of %d bytes was changed", len(data))
		}
	}
}

func TestFramesHangOnArgumentsAlone(t *testing.T) {
	all := oddBytes()
	var first [][]any
	for _, data := range all {
		first = append(first, framesOfAll(data))
	}
	for i := len(all) - 1; i >= 0; i-- {
		// Other memory, with other room behind it, in another order.
		same := append(make([]byte, 0, len(all[i])+9), all[i]...)
		again := framesOfAll(same)
		if !reflect.DeepEqual(first[i], again) {
			t.Errorf("an argument of %d bytes is answered in two ways", len(same))
		}
	}
	if a, b := framesOfAll(nil), framesOfAll([]byte{}); !reflect.DeepEqual(a, b) {
		t.Error("nil and an empty list are answered in two ways:", a, b)
	}
}

// fill writes over all that a list has, and over the room behind it.
func fill(list []byte) {
	list = list[:cap(list)]
	for i := range list {
		list[i] ^= 255
	}
}

func TestPackedBytesAreNewMemory(t *testing.T) {
	word := impl.PackWord(258, 2).Bytes
	kept := impl.PackWord(258, 2).Bytes
	fill(word)
	// Held ahead of the next call, which could put the same bytes there again.
	if !bytes.Equal(kept, []byte{2, 1}) {
		t.Error("PackWord answers twice with one memory")
	}
	if again := impl.PackWord(258, 2).Bytes; !bytes.Equal(again, []byte{2, 1}) {
		t.Error("PackWord answers memory that it keeps:", again)
	}
	for _, size := range []int{1, 2, impl.MaxBody} {
		// With room on both sides, in which a frame could be put.
		room := bodyOf(size+20, int64(size))
		kept := bytes.Clone(room)
		body := room[5 : 5+size]
		want := rawFrame(body)
		frame := impl.PackFrame(body).Bytes
		fill(frame)
		if !bytes.Equal(room, kept) {
			t.Error("PackFrame shares memory with its argument")
		}
		frame = impl.PackFrame(body).Bytes
		other := impl.PackFrame(body).Bytes
		fill(other)
		if !bytes.Equal(frame, want) {
			t.Error("PackFrame answers twice with one memory")
		}
		fill(room)
		if !bytes.Equal(frame, want) {
			t.Error("PackFrame's answer changes with its argument")
		}
	}
}

func TestReadBodiesAreNewMemory(t *testing.T) {
	var disk []byte
	var bodies [][]byte
	for i, size := range []int{1, 1, 2, 17, impl.MaxBody, 3} {
		body := bodyOf(size, int64(i))
		bodies = append(bodies, body)
		disk = append(disk, rawFrame(body)...)
	}
	kept := bytes.Clone(disk)
	for i := range bodies {
		read := impl.ReadFrames(disk)
		fill(read.Bodies[i])
		if !bytes.Equal(disk, kept) {
			t.Fatal("a body shares memory with the disk")
		}
		for j, b := range bodies {
			if i != j && !bytes.Equal(read.Bodies[j], b) {
				t.Fatal("bodies", i, "and", j, "share memory")
			}
		}
		checkFrames(t, "read again", disk, bodies...)
	}
	read := impl.ReadFrames(disk)
	fill(disk)
	for i, b := range bodies {
		if !bytes.Equal(read.Bodies[i], b) {
			t.Error("body", i, "changes with the disk")
		}
	}
}
