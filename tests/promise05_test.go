package tests

import (
	"math/rand"
	"slices"
	"testing"

	"loop.example/g00791/impl"
)

// Promise 5: a hint stays until it is done; it is due later and later, but not
// later than it may.

// nearHintSample is a sample of few Ids, so that many of them are alike.
func nearHintSample(r *rand.Rand) impl.Sample {
	return impl.Sample{Series: r.Int63n(10), Time: r.Int63n(1000), Id: r.Int63n(4), Value: r.Int63n(2001) - 1000}
}

// plainDue are the hints that are due, asked as the document says it.
func plainDue(hints []impl.Hint, now int64) []impl.Hint {
	var due []impl.Hint
	for _, h := range hints {
		if !(h.Due > now) {
			due = append(due, h)
		}
	}
	return due
}

// plainSent is the hint that was sent at now, its wait told by a table.
func plainSent(h impl.Hint, now int64) impl.Hint {
	h.Due = now + []int64{1, 2, 4, 8, 16}[h.Tries]
	h.Tries = []int64{1, 2, 3, 4, 4}[h.Tries]
	return h
}

// checkAdd adds a hint, and asks that just that comes of it which the document
// says; it tells what is there then.
func checkAdd(t *testing.T, hints []impl.Hint, node int64, x impl.Sample) []impl.Hint {
	t.Helper()
	got := impl.AddHint(hints, node, x)
	switch {
	case plainHintPlace(hints, node, x.Id) >= 0:
		checkNoHints(t, "it is there", got, impl.ErrTaken)
		return hints
	case len(hints) == 8:
		checkNoHints(t, "no room", got, impl.ErrFull)
		return hints
	}
	checkHints(t, "added", got, append(slices.Clone(hints), impl.Hint{Node: node, Sample: x}))
	return got.Hints
}

func checkDone(t *testing.T, hints []impl.Hint, node int64, id int64) []impl.Hint {
	t.Helper()
	got := impl.DoneHint(hints, node, id)
	at := plainHintPlace(hints, node, id)
	if at < 0 {
		checkNoHints(t, "none is done", got, impl.ErrNone)
		return hints
	}
	checkHints(t, "done", got, withoutHint(hints, at))
	return got.Hints
}

func checkSent(t *testing.T, hints []impl.Hint, node int64, id int64, now int64) []impl.Hint {
	t.Helper()
	got := impl.SentHint(hints, node, id, now)
	at := plainHintPlace(hints, node, id)
	if at < 0 {
		checkNoHints(t, "none is sent", got, impl.ErrNone)
		return hints
	}
	checkHints(t, "sent", got, withHint(hints, at, plainSent(hints[at], now)))
	return got.Hints
}

// checkOwed asks that the hints have no fault, and are just for those who are
// owed something, each with its sample, in the order in which they came.
func checkOwed(t *testing.T, hints []impl.Hint, owed []impl.Hint) {
	t.Helper()
	if impl.HintsFault(hints) != impl.OK || plainHintsFault(hints) != impl.OK {
		t.Fatalf("%v have a fault", hints)
	}
	if len(hints) != len(owed) {
		t.Fatalf("%v; owed are %v", hints, owed)
	}
	for i, h := range hints {
		if h.Node != owed[i].Node || h.Sample != owed[i].Sample {
			t.Fatalf("%v; owed are %v", hints, owed)
		}
	}
}

func TestHintStaysUntilItIsDone(t *testing.T) {
	r := rand.New(rand.NewSource(5))
	met := map[string]int{}
	for range 200 {
		var hints, owed []impl.Hint
		for now := range int64(100) {
			node, id := r.Int63n(4), r.Int63n(4)
			switch what := r.Intn(10); {
			case what < 4:
				x := nearHintSample(r)
				size := len(hints)
				hints = checkAdd(t, hints, node, x)
				if len(hints) > size {
					owed = append(owed, impl.Hint{Node: node, Sample: x})
				}
				met["full"] += len(hints) / 8
			case what < 6:
				at := plainHintPlace(owed, node, id)
				hints = checkDone(t, hints, node, id)
				if at >= 0 {
					owed = withoutHint(owed, at)
					met["done"]++
				}
			default:
				hints = checkSent(t, hints, node, id, now)
				met["sent"]++
			}
			checkOwed(t, hints, owed)
			checkHints(t, "due", impl.DueHints(hints, now), plainDue(hints, now))
		}
	}
	if met["full"] < 50 || met["done"] < 50 || met["sent"] < 50 {
		t.Error("not all is met:", met)
	}
}

func TestHintsAreDoneInAnyOrder(t *testing.T) {
	full := longHints(8)
	r := rand.New(rand.NewSource(51))
	for range 200 {
		hints, left := full, slices.Clone(full)
		for _, i := range r.Perm(len(full)) {
			h := full[i]
			left = withoutHint(left, plainHintPlace(left, h.Node, h.Sample.Id))
			hints = checkDone(t, hints, h.Node, h.Sample.Id)
			if !slices.Equal(hints, left) {
				t.Fatalf("%v; want %v", hints, left)
			}
			// It is not done twice.
			checkNoHints(t, "done twice", impl.DoneHint(hints, h.Node, h.Sample.Id), impl.ErrNone)
			checkNoHints(t, "sent when it was done", impl.SentHint(hints, h.Node, h.Sample.Id, 5), impl.ErrNone)
		}
		if len(hints) != 0 {
			t.Fatal("all are done, and there are", hints)
		}
	}
}

func TestOneIdForAllNodes(t *testing.T) {
	x := impl.Sample{Series: 1, Time: 2, Id: 3, Value: 4}
	var hints []impl.Hint
	for _, node := range []int64{2, 0, 3, 1} {
		hints = checkAdd(t, hints, node, x)
	}
	for i, node := range []int64{3, 2, 1, 0} {
		hints = checkSent(t, hints, node, 3, int64(i))
		checkHints(t, "those that were not sent, and this one", impl.DueHints(hints, int64(i)+1), plainDue(hints, int64(i)+1))
		checkNoHints(t, "there still", impl.AddHint(hints, node, x), impl.ErrTaken)
	}
	for i, node := range []int64{0, 3, 1, 2} {
		hints = checkDone(t, hints, node, 3)
		if len(hints) != 3-i || plainHintPlace(hints, node, 3) >= 0 {
			t.Fatalf("the hint for %d is done: %v", node, hints)
		}
	}
}

func TestHintIsDueLaterAndLater(t *testing.T) {
	x := impl.Sample{Series: 1, Time: 2, Id: 3, Value: 4}
	for _, start := range []int64{0, 1, 500, 99000} {
		hints := impl.AddHint(longHints(5), 2, x).Hints
		now := start
		wait := int64(0)
		for try := range 50 {
			if due := impl.DueHints(hints, now).Hints; !slices.Contains(due, hints[5]) {
				t.Fatalf("%v is not due at %d", hints[5], now)
			}
			hints = checkSent(t, hints, 2, 3, now)
			h := hints[5]
			if h.Due-now < wait || h.Due-now > 16 || h.Due-now <= 0 || try < 5 && h.Due-now == wait {
				t.Fatalf("try %d at %d is due at %d; the wait ahead of it was %d", try, now, h.Due, wait)
			}
			for at := now; at < h.Due; at++ {
				if slices.Contains(impl.DueHints(hints, at).Hints, h) {
					t.Fatalf("%v is due at %d already", h, at)
				}
			}
			wait = h.Due - now
			now = h.Due
		}
		if wait != 16 || hints[5].Tries != 4 {
			t.Errorf("in the end %v waits for %d", hints[5], wait)
		}
	}
}

func TestWaitsOfOneHint(t *testing.T) {
	hints := impl.AddHint(nil, 0, impl.Sample{}).Hints
	var dues []int64
	for range 7 {
		hints = impl.SentHint(hints, 0, 0, hints[0].Due).Hints
		dues = append(dues, hints[0].Due)
	}
	if !slices.Equal(dues, []int64{1, 3, 7, 15, 31, 47, 63}) {
		t.Error("a hint that is sent when it is due is due at", dues)
	}
}

func TestHintIsDueNotLaterThanItMay(t *testing.T) {
	hints := longHints(8)
	for range 10 {
		for _, h := range hints {
			hints = checkSent(t, hints, h.Node, h.Sample.Id, impl.MaxClock)
			if got := impl.HintsFault(hints); got != impl.OK {
				t.Fatalf("sent at the last clock, %v have the fault %d", hints, got)
			}
		}
	}
	for _, h := range hints {
		if h.Due != impl.MaxClock+16 || h.Tries != impl.MaxTries {
			t.Errorf("%v was sent at the last clock", h)
		}
	}
	checkHints(t, "due at the last wait", impl.DueHints(hints, impl.MaxClock+16), hints)
	checkHints(t, "due ahead of that", impl.DueHints(hints, impl.MaxClock+15), nil)
	checkNoHints(t, "sent behind the last clock", impl.SentHint(hints, 0, 9000, impl.MaxClock+1), impl.ErrRange)
	for tries := range int64(impl.MaxTries) {
		if 2*impl.BackoffOf(tries).Value != impl.BackoffOf(tries+1).Value {
			t.Errorf("BackoffOf of %d and of one more: %v, %v", tries, impl.BackoffOf(tries), impl.BackoffOf(tries+1))
		}
	}
}
