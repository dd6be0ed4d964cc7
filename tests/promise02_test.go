package tests

import (
	"bytes"
	"math/rand"
	"testing"

	"loop.example/g00791/impl"
)

// Promise 2: frames are read one behind the other, up to the first one that is
// not whole; a bit that is turned is told.

func TestFramesAreReadOneBehindTheOther(t *testing.T) {
	checkFrames(t, "nil", nil)
	checkFrames(t, "empty", []byte{})
	var disk []byte
	var bodies [][]byte
	for size := 1; size <= impl.MaxBody; size++ {
		body := bodyOf(size, int64(size))
		checkFrames(t, "a frame alone", rawFrame(body), body)
		disk = append(disk, rawFrame(body)...)
		bodies = append(bodies, body)
		checkFrames(t, "frames of all sizes", disk, bodies...)
	}
}

func TestBodiesOfOneByte(t *testing.T) {
	var disk []byte
	var bodies [][]byte
	for b := range 256 {
		body := []byte{byte(b)}
		checkFrames(t, "one byte", rawFrame(body), body)
		disk = append(disk, rawFrame(body)...)
		bodies = append(bodies, body)
	}
	checkFrames(t, "one byte each", disk, bodies...)
}

func TestTornDiskSaysWholeFrames(t *testing.T) {
	var disk []byte
	var bodies [][]byte
	var ends []int
	for _, size := range []int{1, impl.MaxBody, 2, 1, 1, 17, impl.MaxBody - 1} {
		body := bodyOf(size, 100+int64(size))
		disk = append(disk, impl.PackFrame(body).Bytes...)
		bodies = append(bodies, body)
		ends = append(ends, len(disk))
	}
	for cut := range len(disk) + 1 {
		whole := 0
		for whole < len(ends) && ends[whole] <= cut {
			whole++
		}
		// Once cut off clean, once with the rest in memory behind the end.
		checkFrames(t, "cut", bytes.Clone(disk[:cut]), bodies[:whole]...)
		checkFrames(t, "cut", disk[:cut], bodies[:whole]...)
	}
}

func TestTurnedBitIsTold(t *testing.T) {
	ahead, behind := bodyOf(5, 1), bodyOf(6, 2)
	for size := 1; size <= impl.MaxBody; size++ {
		body := bodyOf(size, int64(size))
		frame := impl.PackFrame(body).Bytes
		for bit := range 8 * len(frame) {
			turned := bytes.Clone(frame)
			turned[bit/8] ^= 1 << (bit % 8)
			checkFrames(t, "turned alone", turned)
			disk := append(append(rawFrame(ahead), turned...), rawFrame(behind)...)
			checkFrames(t, "turned between", disk, ahead)
		}
	}
}

func TestWhatIsNoFrame(t *testing.T) {
	whole := bodyOf(9, 9)
	swapped := rawFrame([]byte{7, 8})
	swapped[3], swapped[4] = swapped[4], swapped[3]
	if swapped[3] == swapped[4] {
		t.Fatal("the bytes of the sum are the same")
	}
	for _, c := range []struct {
		what string
		rest []byte
	}{
		{"length 0, with its sum", rawFrame(nil)},
		{"length 41, with its sum", rawFrame(bodyOf(impl.MaxBody+1, 3))},
		{"length 42, with its sum", rawFrame(bodyOf(impl.MaxBody+2, 3))},
		{"length 255, with its sum", rawFrame(bodyOf(255, 3))},
		{"sum turned around", swapped},
		{"sum of the body alone", append([]byte{2, 7, 8}, byte(divisionSum([]byte{7, 8})>>8), byte(divisionSum([]byte{7, 8})))},
		{"zeros", make([]byte, 50)},
		{"length alone", []byte{1}},
		{"no sum", []byte{1, 7}},
		{"half a sum", rawFrame([]byte{7})[:3]},
	} {
		checkFrames(t, c.what, c.rest)
		disk := append(rawFrame(whole), c.rest...)
		checkFrames(t, c.what+", behind a frame", disk, whole)
		checkFrames(t, c.what+", ahead of a frame", append(disk, rawFrame(whole)...), whole)
	}
}

// filledDisk is full of frames: just as many bytes as are asked for.
func filledDisk(size int) ([]byte, [][]byte) {
	var disk []byte
	var bodies [][]byte
	for len(disk) < size {
		left := size - len(disk)
		next := min(left-3, impl.MaxBody)
		if left > impl.MaxBody+3 && left < impl.MaxBody+7 {
			next = impl.MaxBody - 4
		}
		body := bodyOf(next, int64(len(disk)))
		bodies = append(bodies, body)
		disk = append(disk, impl.PackFrame(body).Bytes...)
	}
	return disk, bodies
}

func TestFullDisk(t *testing.T) {
	for _, size := range []int{impl.MaxDisk - 1, impl.MaxDisk} {
		disk, bodies := filledDisk(size)
		if len(disk) != size {
			t.Fatal("a disk of", len(disk), "bytes")
		}
		checkFrames(t, "full", disk, bodies...)
	}
	small := bytes.Repeat(impl.PackFrame([]byte{3}).Bytes, impl.MaxDisk/4)
	if got := impl.ReadFrames(small); got.Code != impl.OK || got.Size != impl.MaxDisk || len(got.Bodies) != impl.MaxDisk/4 {
		t.Error("full of small frames:", got.Code, got.Size, len(got.Bodies))
	}
	over, _ := filledDisk(impl.MaxDisk + 1)
	for _, disk := range [][]byte{over, make([]byte, impl.MaxDisk+1), make([]byte, 3*impl.MaxDisk)} {
		if got := impl.ReadFrames(disk); got.Code != impl.ErrMany || len(got.Bodies) != 0 || got.Size != 0 {
			t.Errorf("ReadFrames of %d bytes has code %d, %d bodies, size %d; want ErrMany alone", len(disk), got.Code, len(got.Bodies), got.Size)
		}
	}
}

// plainRead reads as the document says it, by the sum that is told another way.
func plainRead(disk []byte) [][]byte {
	var bodies [][]byte
	for len(disk) > 0 {
		n := int(disk[0])
		if n < 1 || n > impl.MaxBody || len(disk)-1 < n+2 {
			break
		}
		if divisionSum(disk[:n+1]) != 256*int64(disk[n+1])+int64(disk[n+2]) {
			break
		}
		bodies = append(bodies, disk[1:n+1])
		disk = disk[n+3:]
	}
	return bodies
}

func TestMixedDisks(t *testing.T) {
	r := rand.New(rand.NewSource(791))
	for range 2000 {
		var disk []byte
		for range r.Intn(8) {
			disk = append(disk, rawFrame(bodyOf(r.Intn(impl.MaxBody+3), r.Int63()))...)
		}
		if len(disk) > 0 && r.Intn(2) == 0 {
			disk[r.Intn(len(disk))] ^= byte(1 + r.Intn(255))
		}
		disk = disk[:len(disk)-r.Intn(1+len(disk)/3)]
		checkFrames(t, "mixed", disk, plainRead(disk)...)
	}
}
