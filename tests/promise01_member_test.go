package tests

import (
	"reflect"
	"slices"
	"sync"
	"testing"

	"loop.example/g00791/impl"
)

// Promise 1, of the functions of chapter 7.

func oddMarks() []impl.Mark {
	list := wholeMarks()
	for _, n := range oddNumbers() {
		list = append(list, mark(n, 5), mark(2, n), mark(n, n))
	}
	return list
}

func oddMarkLists() [][]impl.Mark {
	whole := wholeMarks()
	list := [][]impl.Mark{nil, {}, {{}}, make([]impl.Mark, 4), make([]impl.Mark, 100000)}
	for size := range 7 {
		list = append(list, whole[:size], whole[9:9+size])
	}
	for _, c := range faultyMarks()[:30] {
		list = append(list, []impl.Mark{c.mark}, []impl.Mark{mark(1, 1), c.mark}, []impl.Mark{mark(1, 1), mark(3, 1), c.mark, mark(2, 2)})
	}
	return list
}

// membersOfAll asks the functions of members with these; the answers are held
// against one another.
func membersOfAll(m impl.Member, heard impl.Mark, now int64) []any {
	return []any{
		impl.MarkFault(heard),
		impl.IsStronger(m.Mark, heard),
		impl.MemberFault(m),
		impl.HearMark(m, heard, now),
		impl.SuspectMember(m, now),
		impl.AgeMember(m, now),
		impl.RefuteLife(now, heard),
	}
}

// checkTurned asks that what a code there must be is told alone, and that
// without one there is a member without a fault.
func checkTurned(t *testing.T, what string, got impl.MemberResult, code int64) {
	t.Helper()
	if got.Code != code || code != impl.OK && got.Member != (impl.Member{}) || code == impl.OK && plainMemberFault(got.Member) != impl.OK {
		t.Fatalf("%s: %v; want the code %d", what, got, code)
	}
}

// firstCode is the first one that is not OK, or OK.
func firstCode(codes ...int64) int64 {
	for _, code := range codes {
		if code != impl.OK {
			return code
		}
	}
	return impl.OK
}

func rangeCode(n int64, high int64) int64 {
	if n < 0 || n > high {
		return impl.ErrRange
	}
	return impl.OK
}

func TestMembersAnswerAtEveryArgument(t *testing.T) {
	numbers := append(oddNumbers(), 59999, 60000, 60001, 99996, 99997, 99999, 100000, 100001)
	for _, m := range oddMarks() {
		if got := impl.MarkFault(m); got != plainMarkFault(m) {
			t.Fatalf("MarkFault(%v) = %d", m, got)
		}
		for _, other := range oddMarks() {
			if impl.IsStronger(m, other) != plainStronger(m, other) {
				t.Fatalf("IsStronger(%v, %v)", m, other)
			}
		}
		for _, n := range numbers {
			odd := impl.Member{Mark: m, Since: n}
			fault := plainMemberFault(odd)
			if got := impl.MemberFault(odd); got != fault {
				t.Fatalf("MemberFault(%v) = %d; want %d", odd, got, fault)
			}
			for _, now := range []int64{numbers[0], -1, 0, n, 100000, 100001, numbers[2]} {
				clock := rangeCode(now, 100000)
				checkTurned(t, "suspect", impl.SuspectMember(odd, now), firstCode(fault, clock))
				checkTurned(t, "age", impl.AgeMember(odd, now), firstCode(fault, clock))
				checkTurned(t, "hear", impl.HearMark(odd, mark(3, 9), now), firstCode(fault, clock))
				checkTurned(t, "hear of odd", impl.HearMark(member(2, 2, 9), m, now), firstCode(plainMarkFault(m), clock))
			}
			got := impl.RefuteLife(n, m)
			code := firstCode(rangeCode(n, 60000), plainMarkFault(m))
			if code == impl.OK && m.State != 1 && m.Life == 60000 {
				code = impl.ErrFull
			}
			if got.Code != code || code != impl.OK && got.Value != 0 || got.Value < 0 || got.Value > 60000 {
				t.Fatalf("RefuteLife(%d, %v) = %v; want the code %d", n, m, got, code)
			}
		}
	}
}

func TestMarkListsAnswerAtEveryArgument(t *testing.T) {
	for _, a := range oddMarkLists() {
		for _, b := range oddMarkLists() {
			checkMarks(t, a, b)
		}
	}
}

func TestMembersHangOnArgumentsAlone(t *testing.T) {
	marks := oddMarks()
	numbers := append(oddNumbers()[:40], 0, 1, 5, 6, 60000, 100000)
	ask := func(i int) []any {
		m := impl.Member{Mark: marks[i*5%len(marks)], Since: numbers[i*3%len(numbers)]}
		return membersOfAll(m, marks[i*7%len(marks)], numbers[i*11%len(numbers)])
	}
	var first [][]any
	for i := range 5000 {
		first = append(first, ask(i))
	}
	for i := len(first) - 1; i >= 0; i-- {
		if again := ask(i); !reflect.DeepEqual(first[i], again) {
			t.Fatalf("asked twice: %v and %v", first[i], again)
		}
	}
}

// A life is counted for one call alone: neither calls ahead of it nor calls at
// the same time count.
func TestLivesAreCountedForOneCallAlone(t *testing.T) {
	for range 100 {
		checkLife(t, 2, mark(2, 2), impl.IntResult{Value: 3})
	}
	var all sync.WaitGroup
	for i := range int64(8) {
		all.Go(func() {
			for n := range int64(1000) {
				checkLife(t, 5*i, mark(2+n%2, 5*i+n), impl.IntResult{Value: 5*i + n + 1})
			}
		})
	}
	all.Wait()
}

func TestMergedListsHangOnArgumentsAlone(t *testing.T) {
	lists := oddMarkLists()
	for i, a := range lists {
		b := lists[len(lists)-1-i]
		first, same := impl.MergeMarks(a, b), impl.MergeMarks(a, a)
		// Other memory, with other room behind it.
		otherA := append(make([]impl.Mark, 0, len(a)+i%5), a...)
		otherB := append(make([]impl.Mark, 0, len(b)+i%3), b...)
		if again := impl.MergeMarks(otherA, otherB); !reflect.DeepEqual(first, again) {
			t.Errorf("%v and %v are merged in two ways: %v and %v", a, b, first, again)
		}
		if again := impl.MergeMarks(otherA, otherA); !reflect.DeepEqual(same, again) {
			t.Errorf("%v is merged in two ways: %v and %v", a, same, again)
		}
	}
	if a, b := impl.MergeMarks(nil, nil), impl.MergeMarks([]impl.Mark{}, []impl.Mark{}); !reflect.DeepEqual(a, b) {
		t.Error("nil and an empty list are answered in two ways:", a, b)
	}
}

func TestMarkListsAreNotChanged(t *testing.T) {
	behind := wholeMarks()[:4]
	for _, a := range oddMarkLists() {
		for _, b := range oddMarkLists()[:20] {
			// What lies in memory behind the arguments is not touched, either.
			roomA, roomB := slices.Concat(a, behind), slices.Concat(b, behind)
			keptA, keptB := slices.Clone(roomA), slices.Clone(roomB)
			impl.MergeMarks(roomA[:len(a)], roomB[:len(b)])
			if !slices.Equal(roomA, keptA) || !slices.Equal(roomB, keptB) {
				t.Fatalf("MergeMarks(%v, %v) changes an argument", a, b)
			}
		}
	}
}

// spoilMarks writes over all marks that a list has, and over the room behind
// it.
func spoilMarks(list []impl.Mark) {
	list = list[:cap(list)]
	for i := range list {
		list[i] = mark(-5, -5)
	}
}

func TestMergedMarksAreNewMemory(t *testing.T) {
	strong := []impl.Mark{mark(3, 9), mark(3, 9), mark(3, 9), mark(3, 9)}
	weak := []impl.Mark{mark(1, 1), mark(2, 1), mark(3, 1), mark(1, 2)}
	for size := 1; size <= 4; size++ {
		// All of a, all of b, and both alike.
		for _, lists := range [][2][]impl.Mark{{strong, weak}, {weak, strong}, {weak, weak}} {
			a, b := slices.Clone(lists[0])[:size], slices.Clone(lists[1])[:size]
			want := plainMerged(a, b)
			got, kept := impl.MergeMarks(a, b).Marks, impl.MergeMarks(a, b).Marks
			spoilMarks(got)
			if !slices.Equal(kept, want) {
				t.Fatal("two answers share memory")
			}
			if !slices.Equal(a[:4], lists[0]) || !slices.Equal(b[:4], lists[1]) {
				t.Fatal("the answer shares memory with an argument")
			}
			checkMarks(t, a, b)
			spoilMarks(a)
			spoilMarks(b)
			if !slices.Equal(kept, want) {
				t.Fatal("the answer changes with an argument")
			}
		}
	}
}
