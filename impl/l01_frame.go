package impl

import "bytes"

const OK = 0
const ErrForm = 1
const ErrMany = 2
const ErrRange = 3
const ErrNone = 4
const ErrText = 5
const ErrTaken = 6
const ErrFull = 7
const ErrState = 8
const MaxBody = 40
const MaxDisk = 20000

const maxWord = 4
const sumStart = 65535
const sumMask = 65535
const sumTurn = 4129

// frameRest is what a frame has beside its body: the length and the sum.
const frameRest = 3

type IntResult struct {
	Code  int64
	Value int64
}
type IntsResult struct {
	Code int64
	List []int64
}
type BytesResult struct {
	Code  int64
	Bytes []byte
}
type FramesResult struct {
	Code   int64
	Bodies [][]byte
	Size   int64
}

type bound struct {
	number int64
	low    int64
	high   int64
}

func areWithin(bounds ...bound) bool {
	for _, b := range bounds {
		if b.number < b.low || b.number > b.high {
			return false
		}
	}
	return true
}

func isWordSize(size int64) bool {
	return areWithin(bound{size, 1, maxWord})
}

func PackWord(n int64, size int64) BytesResult {
	// The size is asked on its own first: the bound of n is shifted by it.
	if !isWordSize(size) || !areWithin(bound{n, 0, int64(1)<<(8*size) - 1}) {
		return BytesResult{Code: ErrRange}
	}
	word := make([]byte, size)
	for i := range word {
		word[i] = byte(n >> (8 * i))
	}
	return BytesResult{Bytes: word}
}

func ReadWord(data []byte, at int64, size int64) IntResult {
	// The place is held against the bytes that are left, as at and size
	// together could overflow.
	if !isWordSize(size) || !areWithin(bound{at, 0, int64(len(data)) - size}) {
		return IntResult{Code: ErrRange}
	}
	var n int64
	for i := size - 1; i >= 0; i-- {
		n = n<<8 | int64(data[at+i])
	}
	return IntResult{Value: n}
}

func SumOf(data []byte) IntResult {
	if len(data) > MaxDisk {
		return IntResult{Code: ErrMany}
	}
	sum := int64(sumStart)
	for _, b := range data {
		sum = addToSum(sum, b)
	}
	return IntResult{Value: sum}
}

func addToSum(sum int64, b byte) int64 {
	sum ^= int64(b) << 8
	for range 8 {
		sum <<= 1
		if sum > sumMask {
			sum = sum&sumMask ^ sumTurn
		}
	}
	return sum
}

func PackFrame(body []byte) BytesResult {
	if !areWithin(bound{int64(len(body)), 1, MaxBody}) {
		return BytesResult{Code: ErrMany}
	}
	front := append([]byte{byte(len(body))}, body...)
	return BytesResult{Bytes: append(front, sumBytes(front)...)}
}

func sumBytes(front []byte) []byte {
	sum := SumOf(front).Value
	return []byte{byte(sum >> 8), byte(sum)}
}

func ReadFrames(disk []byte) FramesResult {
	if len(disk) > MaxDisk {
		return FramesResult{Code: ErrMany}
	}
	var read FramesResult
	for {
		body := firstBody(disk[read.Size:])
		if body == nil {
			return read
		}
		read.Bodies = append(read.Bodies, body)
		read.Size += int64(len(body)) + frameRest
	}
}

// firstBody copies the body, so that no answer shares memory with the disk;
// it is nil where no frame comes, as a frame's own body is never empty.
func firstBody(disk []byte) []byte {
	if len(disk) == 0 {
		return nil
	}
	size := int64(disk[0])
	if !areWithin(bound{size, 1, MaxBody}, bound{size + frameRest, 0, int64(len(disk))}) {
		return nil
	}
	front := disk[:1+size]
	if !SameBytes(sumBytes(front), disk[1+size:size+frameRest]) {
		return nil
	}
	return bytes.Clone(front[1:])
}

func SameBytes(a []byte, b []byte) bool {
	return bytes.Equal(a, b)
}
