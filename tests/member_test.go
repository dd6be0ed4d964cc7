package tests

import (
	"math"
	"slices"
	"testing"

	"loop.example/g00791/impl"
)

// plainMarkFault and plainMemberFault tell of marks and members as the
// document writes it.
func plainMarkFault(m impl.Mark) int64 {
	if m.State != 1 && m.State != 2 && m.State != 3 {
		return impl.ErrForm
	}
	if m.Life < 0 || m.Life > 60000 {
		return impl.ErrRange
	}
	return impl.OK
}

func plainMemberFault(m impl.Member) int64 {
	if fault := plainMarkFault(m.Mark); fault != impl.OK {
		return fault
	}
	if m.Since < 0 || m.Since > 100000 {
		return impl.ErrRange
	}
	return impl.OK
}

func plainStronger(a impl.Mark, b impl.Mark) bool {
	if a.Life == b.Life {
		return a.State > b.State
	}
	return a.Life > b.Life
}

// plainMerged has nothing where plainMergeFault tells a code.
func plainMerged(a []impl.Mark, b []impl.Mark) []impl.Mark {
	if plainMergeFault(a, b) != impl.OK {
		return nil
	}
	var merged []impl.Mark
	for i := range a {
		if plainStronger(b[i], a[i]) {
			merged = append(merged, b[i])
		} else {
			merged = append(merged, a[i])
		}
	}
	return merged
}

func plainMergeFault(a []impl.Mark, b []impl.Mark) int64 {
	if len(a) > 4 || len(b) > 4 || len(a) != len(b) {
		return impl.ErrMany
	}
	for _, list := range [][]impl.Mark{a, b} {
		for _, m := range list {
			if fault := plainMarkFault(m); fault != impl.OK {
				return fault
			}
		}
	}
	return impl.OK
}

func mark(state int64, life int64) impl.Mark {
	return impl.Mark{State: state, Life: life}
}

func member(state int64, life int64, since int64) impl.Member {
	return impl.Member{Mark: mark(state, life), Since: since}
}

// wholeMarks have all states there are, and lives at both ends and between.
func wholeMarks() []impl.Mark {
	var list []impl.Mark
	for _, life := range []int64{0, 1, 2, 7, 59999, 60000} {
		for state := int64(1); state <= 3; state++ {
			list = append(list, mark(state, life))
		}
	}
	return list
}

type faultyMark struct {
	mark impl.Mark
	code int64
}

func faultyMarks() []faultyMark {
	var list []faultyMark
	for _, state := range append(numbersPast(1, 3), 0) {
		for _, life := range append(numbersPast(0, 60000), 0, 5, 60000) {
			// The state is asked ahead of the life.
			list = append(list, faultyMark{mark(state, life), impl.ErrForm})
		}
	}
	for state := int64(1); state <= 3; state++ {
		for _, life := range numbersPast(0, 60000) {
			list = append(list, faultyMark{mark(state, life), impl.ErrRange})
		}
	}
	return list
}

type faultyMember struct {
	member impl.Member
	code   int64
}

func faultyMembers() []faultyMember {
	var list []faultyMember
	for _, c := range faultyMarks() {
		for _, since := range []int64{-1, 0, 100000, 100001} {
			list = append(list, faultyMember{impl.Member{Mark: c.mark, Since: since}, c.code})
		}
	}
	for state := int64(1); state <= 3; state++ {
		for _, since := range numbersPast(0, 100000) {
			list = append(list,
				faultyMember{member(state, 0, since), impl.ErrRange},
				faultyMember{member(state, 60000, since), impl.ErrRange},
			)
		}
	}
	return list
}

func checkMember(t *testing.T, what string, got impl.MemberResult, want impl.Member) {
	t.Helper()
	if got != (impl.MemberResult{Member: want}) {
		t.Errorf("%s: %v; want %v", what, got, want)
	}
}

func checkNoMember(t *testing.T, what string, got impl.MemberResult, code int64) {
	t.Helper()
	if got != (impl.MemberResult{Code: code}) {
		t.Errorf("%s: %v; want the code %d alone", what, got, code)
	}
}

func checkLife(t *testing.T, life int64, heard impl.Mark, want impl.IntResult) {
	t.Helper()
	if got := impl.RefuteLife(life, heard); got != want {
		t.Errorf("RefuteLife(%d, %v) = %v; want %v", life, heard, got, want)
	}
}

// checkMarks asks for what plainMerged and plainMergeFault tell.
func checkMarks(t *testing.T, a []impl.Mark, b []impl.Mark) {
	t.Helper()
	got := impl.MergeMarks(a, b)
	if got.Code != plainMergeFault(a, b) || !slices.Equal(got.Marks, plainMerged(a, b)) {
		t.Errorf("MergeMarks(%v, %v) = %v; want the code %d and %v", a, b, got, plainMergeFault(a, b), plainMerged(a, b))
	}
}

func TestMemberConstants(t *testing.T) {
	got := []int64{impl.StAlive, impl.StSuspect, impl.StDead, impl.SuspectTime}
	if !slices.Equal(got, []int64{1, 2, 3, 4}) {
		t.Error("the constants are", got)
	}
}

func TestMarkFault(t *testing.T) {
	for _, m := range wholeMarks() {
		if got := impl.MarkFault(m); got != impl.OK {
			t.Errorf("MarkFault(%v) = %d; want none", m, got)
		}
	}
	for _, c := range faultyMarks() {
		if plainMarkFault(c.mark) != c.code {
			t.Fatal(c.mark, "is told in two ways by the tests")
		}
		if got := impl.MarkFault(c.mark); got != c.code {
			t.Errorf("MarkFault(%v) = %d; want %d", c.mark, got, c.code)
		}
	}
}

func TestIsStronger(t *testing.T) {
	for _, c := range []struct {
		a    impl.Mark
		b    impl.Mark
		want bool
	}{
		{mark(1, 3), mark(3, 2), true},
		{mark(3, 2), mark(1, 3), false},
		{mark(2, 2), mark(1, 2), true},
		{mark(3, 2), mark(2, 2), true},
		{mark(3, 2), mark(1, 2), true},
		{mark(1, 2), mark(2, 2), false},
		{mark(2, 2), mark(2, 2), false},
		{mark(3, 0), mark(1, 0), true},
		{mark(1, 60000), mark(3, 59999), true},
		// Asked of any: a mark with a fault is held against others, too.
		{mark(0, 0), mark(0, 0), false},
		{mark(1, 0), mark(0, 0), true},
		{mark(-1, 5), mark(-2, 5), true},
		{mark(-9, 5), mark(9, 4), true},
		{mark(4, 60001), mark(4, 60001), false},
		{mark(0, math.MaxInt64), mark(9, math.MinInt64), true},
		{mark(0, math.MinInt64), mark(9, math.MaxInt64), false},
		{mark(math.MaxInt64, 0), mark(math.MinInt64, 0), true},
		{mark(math.MinInt64, 0), mark(math.MaxInt64, 0), false},
	} {
		if got := impl.IsStronger(c.a, c.b); got != c.want {
			t.Errorf("IsStronger(%v, %v) = %v", c.a, c.b, got)
		}
	}
}

func TestMemberFault(t *testing.T) {
	for _, m := range wholeMarks() {
		for _, since := range []int64{0, 1, 99999, 100000} {
			if got := impl.MemberFault(impl.Member{Mark: m, Since: since}); got != impl.OK {
				t.Errorf("MemberFault of %v since %d = %d; want none", m, since, got)
			}
		}
	}
	for _, c := range faultyMembers() {
		if plainMemberFault(c.member) != c.code {
			t.Fatal(c.member, "is told in two ways by the tests")
		}
		if got := impl.MemberFault(c.member); got != c.code {
			t.Errorf("MemberFault(%v) = %d; want %d", c.member, got, c.code)
		}
	}
	if got := impl.MemberFault(impl.Member{}); got != impl.ErrForm {
		t.Errorf("MemberFault of the zero member = %d; want ErrForm", got)
	}
}

func TestFaultsOfMembersAreAskedFirst(t *testing.T) {
	for _, c := range faultyMembers() {
		for _, now := range []int64{-1, 0, 100000, 100001} {
			checkNoMember(t, "suspect", impl.SuspectMember(c.member, now), c.code)
			checkNoMember(t, "age", impl.AgeMember(c.member, now), c.code)
			for _, heard := range []impl.Mark{mark(1, 5), mark(0, 5), mark(1, -1), c.member.Mark} {
				checkNoMember(t, "hear", impl.HearMark(c.member, heard, now), c.code)
			}
		}
	}
}

func TestHearMark(t *testing.T) {
	m := member(impl.StSuspect, 2, 9)
	for _, c := range []struct {
		heard impl.Mark
		now   int64
		want  impl.Member
	}{
		{mark(1, 2), 10, m},
		{mark(1, 3), 10, member(1, 3, 10)},
		{mark(2, 3), 10, member(2, 3, 10)},
		{mark(3, 2), 10, member(3, 2, 10)},
		{mark(3, 1), 10, m},
		{mark(3, 0), 10, m},
		{mark(3, 60000), 10, member(3, 60000, 10)},
		{mark(1, 60000), 10, member(1, 60000, 10)},
		// Heard of once more, it stays: Since is not now.
		{mark(2, 2), 10, m},
		{mark(2, 2), 100000, m},
		// Times at both ends, and one ahead of Since.
		{mark(3, 2), 0, member(3, 2, 0)},
		{mark(3, 2), 8, member(3, 2, 8)},
		{mark(3, 2), 9, member(3, 2, 9)},
		{mark(3, 2), 100000, member(3, 2, 100000)},
	} {
		checkMember(t, "hear", impl.HearMark(m, c.heard, c.now), c.want)
	}
	for _, since := range []int64{0, 100000} {
		for _, now := range []int64{0, 100000} {
			checkMember(t, "stays", impl.HearMark(member(3, 60000, since), mark(3, 60000), now), member(3, 60000, since))
			checkMember(t, "comes", impl.HearMark(member(2, 60000, since), mark(3, 60000), now), member(3, 60000, now))
			checkMember(t, "comes again", impl.HearMark(member(3, 0, since), mark(1, 1), now), member(1, 1, now))
		}
	}
}

func TestHearMarkThatCannotBe(t *testing.T) {
	for _, own := range wholeMarks() {
		m := impl.Member{Mark: own, Since: 5}
		for _, c := range faultyMarks() {
			// What is heard is asked ahead of the time.
			for _, now := range []int64{-1, 0, 100000, 100001} {
				checkNoMember(t, "a mark with a fault", impl.HearMark(m, c.mark, now), c.code)
			}
		}
		for _, now := range numbersPast(0, 100000) {
			checkNoMember(t, "a time out of bounds", impl.HearMark(m, mark(3, 60000), now), impl.ErrRange)
			checkNoMember(t, "a time out of bounds, and nothing new", impl.HearMark(m, own, now), impl.ErrRange)
		}
	}
}

func TestSuspectMember(t *testing.T) {
	for _, life := range []int64{0, 2, 60000} {
		for _, since := range []int64{0, 5, 100000} {
			for _, now := range []int64{0, 4, 5, 9, 99999, 100000} {
				checkMember(t, "alive", impl.SuspectMember(member(1, life, since), now), member(2, life, now))
				checkMember(t, "suspect", impl.SuspectMember(member(2, life, since), now), member(2, life, since))
				checkMember(t, "dead", impl.SuspectMember(member(3, life, since), now), member(3, life, since))
			}
			for _, now := range numbersPast(0, 100000) {
				for state := int64(1); state <= 3; state++ {
					checkNoMember(t, "a time out of bounds", impl.SuspectMember(member(state, life, since), now), impl.ErrRange)
				}
			}
		}
	}
}

func TestAgeMember(t *testing.T) {
	for _, c := range []struct {
		since int64
		now   int64
		dies  bool
	}{
		{9, 12, false},
		{9, 13, true},
		{9, 14, true},
		{9, 9, false},
		{9, 8, false},
		{9, 0, false},
		{0, 0, false},
		{0, 3, false},
		{0, 4, true},
		{0, 100000, true},
		// Just at the end: who is suspect since later does not die any more.
		{99995, 100000, true},
		{99996, 99999, false},
		{99996, 100000, true},
		{99997, 100000, false},
		{100000, 100000, false},
		{100000, 0, false},
	} {
		for _, life := range []int64{0, 2, 60000} {
			want := member(2, life, c.since)
			if c.dies {
				want = member(3, life, c.now)
			}
			checkMember(t, "suspect", impl.AgeMember(member(2, life, c.since), c.now), want)
			checkMember(t, "alive", impl.AgeMember(member(1, life, c.since), c.now), member(1, life, c.since))
			checkMember(t, "dead", impl.AgeMember(member(3, life, c.since), c.now), member(3, life, c.since))
		}
	}
	for _, now := range numbersPast(0, 100000) {
		for state := int64(1); state <= 3; state++ {
			checkNoMember(t, "a time out of bounds", impl.AgeMember(member(state, 2, 0), now), impl.ErrRange)
			checkNoMember(t, "a time out of bounds", impl.AgeMember(member(state, 2, 100000), now), impl.ErrRange)
		}
	}
}

func TestRefuteLife(t *testing.T) {
	for _, c := range []struct {
		life  int64
		heard impl.Mark
		want  impl.IntResult
	}{
		{2, mark(2, 2), impl.IntResult{Value: 3}},
		{2, mark(3, 2), impl.IntResult{Value: 3}},
		{2, mark(3, 7), impl.IntResult{Value: 8}},
		{2, mark(3, 1), impl.IntResult{Value: 2}},
		{2, mark(2, 1), impl.IntResult{Value: 2}},
		{0, mark(2, 0), impl.IntResult{Value: 1}},
		// Who is said to be there has nothing to say, whatever life is heard.
		{2, mark(1, 9), impl.IntResult{Value: 2}},
		{2, mark(1, 2), impl.IntResult{Value: 2}},
		{0, mark(1, 60000), impl.IntResult{Value: 0}},
		{60000, mark(1, 60000), impl.IntResult{Value: 60000}},
		// The last life: there is none behind it.
		{59999, mark(3, 59999), impl.IntResult{Value: 60000}},
		{0, mark(3, 59999), impl.IntResult{Value: 60000}},
		{60000, mark(3, 59999), impl.IntResult{Value: 60000}},
		{0, mark(3, 60000), impl.IntResult{Code: impl.ErrFull}},
		{60000, mark(2, 60000), impl.IntResult{Code: impl.ErrFull}},
		{60000, mark(3, 60000), impl.IntResult{Code: impl.ErrFull}},
	} {
		checkLife(t, c.life, c.heard, c.want)
	}
}

func TestRefuteLifeThatCannotBe(t *testing.T) {
	for _, life := range numbersPast(0, 60000) {
		for _, heard := range wholeMarks() {
			checkLife(t, life, heard, impl.IntResult{Code: impl.ErrRange})
		}
		for _, c := range faultyMarks() {
			// One's own life is asked ahead of what is heard.
			checkLife(t, life, c.mark, impl.IntResult{Code: impl.ErrRange})
		}
	}
	for _, life := range []int64{0, 2, 60000} {
		for _, c := range faultyMarks() {
			checkLife(t, life, c.mark, impl.IntResult{Code: c.code})
		}
	}
}

func TestMergeMarks(t *testing.T) {
	a := []impl.Mark{mark(1, 2), mark(3, 1), mark(2, 5), mark(1, 60000)}
	b := []impl.Mark{mark(2, 2), mark(1, 1), mark(2, 5), mark(3, 59999)}
	want := []impl.Mark{mark(2, 2), mark(3, 1), mark(2, 5), mark(1, 60000)}
	for size := range 5 {
		for _, got := range []impl.MarksResult{impl.MergeMarks(a[:size], b[:size]), impl.MergeMarks(b[:size], a[:size])} {
			if got.Code != impl.OK || !slices.Equal(got.Marks, want[:size]) {
				t.Errorf("%d marks are merged to %v; want %v", size, got, want[:size])
			}
		}
	}
	for _, empty := range [][]impl.Mark{nil, {}} {
		checkMarks(t, empty, nil)
		checkMarks(t, empty, []impl.Mark{})
	}
	for _, x := range wholeMarks() {
		for _, y := range wholeMarks() {
			checkMarks(t, []impl.Mark{x}, []impl.Mark{y})
			checkMarks(t, []impl.Mark{mark(1, 1), x, y, y}, []impl.Mark{mark(1, 1), y, y, x})
		}
	}
}

func TestMergeMarksThatCannotBe(t *testing.T) {
	alive := slices.Repeat([]impl.Mark{mark(1, 1)}, 9)
	gone := make([]impl.Mark, 9)
	for m := range 10 {
		for n := range 10 {
			if m == n && m <= 4 {
				continue
			}
			// How many there are is asked ahead of the marks.
			for _, a := range [][]impl.Mark{alive, gone} {
				for _, b := range [][]impl.Mark{alive, gone} {
					if got := impl.MergeMarks(a[:m], b[:n]); got.Code != impl.ErrMany || len(got.Marks) != 0 {
						t.Errorf("MergeMarks of %d and %d marks = %v; want ErrMany alone", m, n, got)
					}
				}
			}
		}
	}
	for _, c := range faultyMarks() {
		for size := 1; size <= 4; size++ {
			for at := range size {
				bad := slices.Clone(alive[:size])
				bad[at] = c.mark
				for _, got := range []impl.MarksResult{impl.MergeMarks(bad, alive[:size]), impl.MergeMarks(alive[:size], bad)} {
					if got.Code != c.code || len(got.Marks) != 0 {
						t.Errorf("MergeMarks with %v = %v; want the code %d alone", c.mark, got, c.code)
					}
				}
			}
		}
	}
}

func TestFaultsOfMergedMarksAreAskedInOrder(t *testing.T) {
	whole, form, far := mark(1, 1), mark(0, 1), mark(1, -1)
	for _, c := range []struct {
		what string
		a    []impl.Mark
		b    []impl.Mark
		code int64
	}{
		{"the first one of a", []impl.Mark{far, form}, []impl.Mark{whole, whole}, impl.ErrRange},
		{"the first one of a", []impl.Mark{form, far}, []impl.Mark{whole, whole}, impl.ErrForm},
		{"the first one of b", []impl.Mark{whole, whole}, []impl.Mark{far, form}, impl.ErrRange},
		{"the first one of b", []impl.Mark{whole, whole}, []impl.Mark{form, far}, impl.ErrForm},
		{"a ahead of b, at one place", []impl.Mark{whole, far}, []impl.Mark{whole, form}, impl.ErrRange},
		{"a ahead of b, at one place", []impl.Mark{whole, form}, []impl.Mark{whole, far}, impl.ErrForm},
		{"all of a ahead of b", []impl.Mark{whole, far}, []impl.Mark{form, whole}, impl.ErrRange},
		{"all of a ahead of b", []impl.Mark{whole, form}, []impl.Mark{far, whole}, impl.ErrForm},
	} {
		if got := impl.MergeMarks(c.a, c.b); got.Code != c.code || len(got.Marks) != 0 {
			t.Errorf("%s: MergeMarks(%v, %v) = %v; want the code %d alone", c.what, c.a, c.b, got, c.code)
		}
	}
}
