package tests

import (
	"math/rand"
	"slices"
	"testing"

	"loop.example/g00791/impl"
)

// Promise 8: what is heard counts if it is newer, whatever order it comes in;
// who is said to be gone says that they are not; to merge marks does not hang
// on their order, nor on how often it is done.

// heardAll is a member that hears these marks one behind the other, each a
// tick later.
func heardAll(t *testing.T, m impl.Member, heard []impl.Mark) impl.Member {
	t.Helper()
	for i, h := range heard {
		got := impl.HearMark(m, h, int64(50+i))
		if got.Code != impl.OK {
			t.Fatalf("HearMark(%v, %v) has the code %d", m, h, got.Code)
		}
		m = got.Member
	}
	return m
}

// strongest is what counts of marks, found by counting for each one how many
// it gives way to.
func strongest(marks []impl.Mark) impl.Mark {
	return slices.MinFunc(marks, func(a impl.Mark, b impl.Mark) int {
		return givesWay(a, marks) - givesWay(b, marks)
	})
}

func givesWay(m impl.Mark, marks []impl.Mark) int {
	count := 0
	for _, other := range marks {
		if plainStronger(other, m) {
			count++
		}
	}
	return count
}

// nearMarks are of few states and lives, so that many of them are alike.
func nearMarks(r *rand.Rand, size int) []impl.Mark {
	var list []impl.Mark
	for range size {
		list = append(list, mark(1+r.Int63n(3), r.Int63n(4)))
	}
	return list
}

func shuffled(r *rand.Rand, list []impl.Mark) []impl.Mark {
	list = slices.Clone(list)
	r.Shuffle(len(list), func(i int, j int) {
		list[i], list[j] = list[j], list[i]
	})
	return list
}

func merged(t *testing.T, a []impl.Mark, b []impl.Mark) []impl.Mark {
	t.Helper()
	got := impl.MergeMarks(a, b)
	if got.Code != impl.OK {
		t.Fatalf("MergeMarks(%v, %v) has the code %d", a, b, got.Code)
	}
	return got.Marks
}

func TestOfTwoMarksOneIsStrongerOrBothAreAlike(t *testing.T) {
	marks := append(wholeMarks(), mark(0, 0), mark(4, 60001), mark(-1, -1))
	for _, a := range marks {
		for _, b := range marks {
			ab, ba := impl.IsStronger(a, b), impl.IsStronger(b, a)
			if ab && ba || (a == b) == (ab || ba) || ab != plainStronger(a, b) {
				t.Errorf("%v and %v: %v, %v", a, b, ab, ba)
			}
			for _, c := range marks {
				if ab && impl.IsStronger(b, c) && !impl.IsStronger(a, c) {
					t.Errorf("%v, %v and %v do not stand in an order", a, b, c)
				}
			}
		}
	}
}

func TestWhatIsHeardCountsInAnyOrder(t *testing.T) {
	r := rand.New(rand.NewSource(8))
	for range 500 {
		own := nearMarks(r, 1)[0]
		m := impl.Member{Mark: own, Since: 5}
		heard := nearMarks(r, r.Intn(7))
		want := strongest(append([]impl.Mark{own}, heard...))
		for range 10 {
			// Some of it comes more than once.
			order := shuffled(r, append(slices.Clone(heard), heard[:r.Intn(len(heard)+1)]...))
			if got := heardAll(t, m, order); got.Mark != want {
				t.Fatalf("%v hears %v and is %v; want %v", m, order, got, want)
			}
		}
	}
}

func TestWhatIsHeardCountsOnlyIfItIsNewer(t *testing.T) {
	met := map[bool]int{}
	for _, own := range wholeMarks() {
		for _, heard := range wholeMarks() {
			for _, now := range []int64{0, 5, 6, 100000} {
				m := impl.Member{Mark: own, Since: 5}
				want := m
				if newer := plainStronger(heard, own); newer {
					want = impl.Member{Mark: heard, Since: now}
				}
				got := impl.HearMark(m, heard, now)
				checkMember(t, "heard", got, want)
				checkMember(t, "heard again, later", impl.HearMark(got.Member, heard, 77), want)
				met[got.Member == m]++
			}
		}
	}
	if met[true] == 0 || met[false] == 0 {
		t.Error("not all is met:", met)
	}
}

// Since tells when the mark became what it is: it moves with the mark alone.
func TestSinceMovesWithTheMarkAlone(t *testing.T) {
	r := rand.New(rand.NewSource(81))
	for range 100 {
		m := member(1, 0, 0)
		for now := int64(1); now < 60; now++ {
			var got impl.MemberResult
			switch r.Intn(3) {
			case 0:
				got = impl.HearMark(m, nearMarks(r, 1)[0], now)
			case 1:
				got = impl.SuspectMember(m, now)
			default:
				got = impl.AgeMember(m, now)
			}
			next := got.Member
			if got.Code != impl.OK || impl.MemberFault(next) != impl.OK {
				t.Fatalf("%v becomes %v", m, got)
			}
			if next.Mark == m.Mark && next.Since != m.Since || next.Mark != m.Mark && next.Since != now {
				t.Fatalf("at %d %v becomes %v", now, m, next)
			}
			// What is known of somebody never becomes weaker.
			if plainStronger(m.Mark, next.Mark) {
				t.Fatalf("at %d %v becomes %v, which is weaker", now, m, next)
			}
			m = next
		}
	}
}

func TestWhoIsSilentIsSuspectAndThenDead(t *testing.T) {
	for _, start := range []int64{0, 7, 99996} {
		m := impl.SuspectMember(member(1, 3, 0), start).Member
		for now := start; now < start+4; now++ {
			m = impl.SuspectMember(m, now).Member
			m = impl.AgeMember(m, now).Member
			if m != member(2, 3, start) {
				t.Fatalf("at %d it is %v; suspect since %d", now, m, start)
			}
		}
		m = impl.AgeMember(m, start+4).Member
		if m != member(3, 3, start+4) {
			t.Fatalf("at %d it is %v", start+4, m)
		}
		// Dead it stays, until it is heard with another life.
		for _, now := range []int64{start, 100000} {
			checkMember(t, "aged", impl.AgeMember(m, now), m)
			checkMember(t, "suspected", impl.SuspectMember(m, now), m)
			checkMember(t, "said to be there", impl.HearMark(m, mark(1, 3), now), m)
			checkMember(t, "it says that it is there", impl.HearMark(m, mark(1, 4), now), member(1, 4, now))
		}
	}
}

func TestWhoIsSaidToBeGoneSaysThatTheyAreNot(t *testing.T) {
	met := map[string]int{}
	for _, life := range []int64{0, 1, 2, 6, 7, 8, 59998, 59999, 60000} {
		for _, heard := range wholeMarks() {
			got := impl.RefuteLife(life, heard)
			switch said := mark(1, got.Value); {
			case heard.State == 1 || plainStronger(mark(1, life), heard):
				// Nobody who hears both takes them to be gone.
				checkLife(t, life, heard, impl.IntResult{Value: life})
				met["nothing to say"]++
			case heard.Life == 60000:
				checkLife(t, life, heard, impl.IntResult{Code: impl.ErrFull})
				met["no life left"]++
			default:
				// What they say then counts with whoever heard that of them, and the
				// life is no higher than that takes.
				if got.Code != impl.OK || !plainStronger(said, heard) || said.Life <= life || plainStronger(mark(1, got.Value-1), heard) {
					t.Errorf("RefuteLife(%d, %v) = %v", life, heard, got)
				}
				m := impl.HearMark(impl.Member{Mark: heard, Since: 5}, said, 9)
				checkMember(t, "it is there", m, impl.Member{Mark: said, Since: 9})
				met["says it"]++
			}
		}
	}
	if met["nothing to say"] == 0 || met["no life left"] == 0 || met["says it"] == 0 {
		t.Error("not all is met:", met)
	}
}

// A life is as it was when the same is heard again: it is said once.
func TestLivesNeverGoDown(t *testing.T) {
	r := rand.New(rand.NewSource(82))
	for range 200 {
		life := r.Int63n(4)
		for range 30 {
			heard := mark(1+r.Int63n(3), max(0, life+r.Int63n(5)-2))
			got := impl.RefuteLife(life, heard)
			if got.Code != impl.OK || got.Value < life {
				t.Fatalf("RefuteLife(%d, %v) = %v", life, heard, got)
			}
			checkLife(t, got.Value, heard, got)
			life = got.Value
		}
	}
}

func TestMergedMarksDoNotHangOnTheirOrder(t *testing.T) {
	r := rand.New(rand.NewSource(83))
	for range 2000 {
		size := r.Intn(5)
		a, b, c := nearMarks(r, size), nearMarks(r, size), nearMarks(r, size)
		ab, ba := merged(t, a, b), merged(t, b, a)
		if !slices.Equal(ab, ba) {
			t.Fatalf("%v and %v are merged to %v and %v", a, b, ab, ba)
		}
		if left, right := merged(t, ab, c), merged(t, a, merged(t, b, c)); !slices.Equal(left, right) {
			t.Fatalf("%v, %v and %v are merged to %v and %v", a, b, c, left, right)
		}
		checkMarks(t, a, b)
	}
}

func TestMergedMarksDoNotHangOnHowOftenItIsDone(t *testing.T) {
	r := rand.New(rand.NewSource(84))
	for range 2000 {
		size := r.Intn(5)
		a, b := nearMarks(r, size), nearMarks(r, size)
		ab := merged(t, a, b)
		for _, again := range [][]impl.Mark{merged(t, ab, a), merged(t, ab, b), merged(t, a, ab), merged(t, b, ab), merged(t, ab, ab)} {
			if !slices.Equal(again, ab) {
				t.Fatalf("%v and %v are merged to %v, and then to %v", a, b, ab, again)
			}
		}
		if same := merged(t, a, a); !slices.Equal(same, a) {
			t.Fatalf("%v is merged with itself to %v", a, same)
		}
	}
}

// To merge is to hear, place by place.
func TestMergedMarksAreWhatIsHeard(t *testing.T) {
	for _, a := range wholeMarks() {
		for _, b := range wholeMarks() {
			heard := impl.HearMark(impl.Member{Mark: a}, b, 1).Member.Mark
			want := []impl.Mark{mark(1, 0), heard, mark(3, 60000)}
			if got := merged(t, []impl.Mark{mark(1, 0), a, mark(3, 60000)}, []impl.Mark{mark(1, 0), b, mark(1, 0)}); !slices.Equal(got, want) {
				t.Errorf("%v hears %v; merged they are %v", a, b, got)
			}
		}
	}
}
