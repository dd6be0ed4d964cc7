package tests

import (
	"math"
	"reflect"
	"slices"
	"testing"

	"loop.example/g00791/impl"
)

// Promise 1, of the functions of chapter 4.

func oddHints() [][]impl.Hint {
	list := [][]impl.Hint{nil, {}, {{}}, longHints(1), longHints(7), longHints(8), longHints(9), make([]impl.Hint, 100000)}
	for _, c := range faultyHints()[:40] {
		list = append(list, c.hints)
	}
	for _, n := range []int64{math.MinInt64, -1, 2, 4, 5, 65536, math.MaxInt64} {
		x := impl.Sample{Series: n, Time: n, Id: n, Value: n}
		list = append(list, []impl.Hint{{Node: n, Sample: x, Tries: n, Due: n}}, []impl.Hint{{Node: n}}, []impl.Hint{{Due: n}})
	}
	return list
}

// hintsOfAll asks the functions of hints one list each; the answers are held
// against one another.
func hintsOfAll(hints []impl.Hint) []any {
	list := []any{
		impl.HintsFault(hints),
		impl.SameHints(hints, hints),
		impl.SameHints(hints, longHints(1)),
	}
	for _, x := range []impl.Sample{{}, {Series: 1, Time: 2, Id: 9000, Value: 4}, {Id: 9000}, {Id: 8999}, {Id: 10000}, {Value: math.MinInt64}} {
		for _, node := range []int64{math.MinInt64, -1, 0, 1, 3, 4, math.MaxInt64} {
			list = append(list, impl.AddHint(hints, node, x), impl.DoneHint(hints, node, x.Id), impl.SentHint(hints, node, x.Id, 50))
		}
	}
	for _, now := range []int64{math.MinInt64, -1, 0, 1, 40, 100000, 100001, 200000, math.MaxInt64} {
		list = append(list, impl.DueHints(hints, now), impl.SentHint(hints, 0, 9000, now), impl.SentHint(hints, 0, 0, now))
	}
	return list
}

func TestHintsAnswerAtEveryArgument(t *testing.T) {
	for _, hints := range oddHints() {
		fault := plainHintsFault(hints)
		if got := impl.HintsFault(hints); got != fault {
			t.Fatalf("HintsFault of %d hints = %d; want %d", len(hints), got, fault)
		}
		hintsOfAll(hints)
	}
	numbers := oddNumbers()
	hints := []impl.Hint{{Node: 1, Sample: impl.Sample{Id: 7}}, {}, {Node: 2, Due: 31}}
	for _, n := range numbers {
		checkHints(t, "due at any", impl.DueHints(hints, n), plainDue(hints, n))
		if got := impl.BackoffOf(n); n >= 0 && n <= 4 && got != (impl.IntResult{Value: int64(math.Pow(2, float64(n)))}) || (n < 0 || n > 4) && got != (impl.IntResult{Code: impl.ErrRange}) {
			t.Fatalf("BackoffOf(%d) = %v", n, got)
		}
		for _, m := range numbers {
			checkDone(t, hints, n, m)
			if n >= 0 && n <= 100000 {
				checkSent(t, hints, m, 7, n)
				checkSent(t, hints, 1, m, n)
			} else {
				checkNoHints(t, "a clock out of bounds", impl.SentHint(hints, m, 7, n), impl.ErrRange)
				checkNoHints(t, "a clock out of bounds", impl.SentHint(hints, 1, m, n), impl.ErrRange)
			}
			x := impl.Sample{Id: m}
			if plainSampleFault(x) != impl.OK || n < 0 || n > 3 {
				checkNoHints(t, "out of bounds", impl.AddHint(hints, n, x), impl.ErrRange)
			} else {
				checkAdd(t, hints, n, x)
			}
		}
	}
	for _, x := range oddSamples() {
		if plainSampleFault(x) != impl.OK {
			checkNoHints(t, "an odd sample", impl.AddHint(hints, 3, x), impl.ErrRange)
		} else {
			checkAdd(t, hints, 3, x)
		}
	}
}

func TestHintsChangeNoArgument(t *testing.T) {
	behind := longHints(4)
	for _, hints := range oddHints() {
		// What lies in memory behind the argument is not touched, either.
		room := slices.Concat(hints, behind)
		kept := slices.Clone(room)
		hintsOfAll(room[:len(hints)])
		if !slices.Equal(room, kept) {
			t.Errorf("a list of %d hints was changed", len(hints))
		}
	}
}

func TestHintsHangOnArgumentsAlone(t *testing.T) {
	lists := oddHints()
	var first [][]any
	for _, hints := range lists {
		first = append(first, hintsOfAll(hints))
	}
	for round := range 5 {
		for i := len(lists) - 1; i >= 0; i-- {
			// Other memory, with other room behind it, in another order.
			same := append(make([]impl.Hint, 0, len(lists[i])+round), lists[i]...)
			if again := hintsOfAll(same); !reflect.DeepEqual(first[i], again) {
				t.Errorf("a list of %d hints is answered in two ways", len(same))
			}
		}
	}
	if a, b := hintsOfAll(nil), hintsOfAll([]impl.Hint{}); !reflect.DeepEqual(a, b) {
		t.Error("nil and an empty list are answered in two ways:", a, b)
	}
}

// spoilHints writes over all hints that a list has, and over the room behind
// it.
func spoilHints(hints []impl.Hint) {
	hints = hints[:cap(hints)]
	for i := range hints {
		hints[i] = impl.Hint{Node: -5, Sample: impl.Sample{Id: -5}, Tries: -5, Due: -5}
	}
}

func TestListsOfHintsAreNewMemory(t *testing.T) {
	for _, c := range []struct {
		what string
		ask  func(hints []impl.Hint) []impl.Hint
	}{
		{"add", func(hints []impl.Hint) []impl.Hint {
			return impl.AddHint(hints, 0, impl.Sample{}).Hints
		}},
		{"done at the front", func(hints []impl.Hint) []impl.Hint {
			return impl.DoneHint(hints, 0, 9000).Hints
		}},
		{"done between", func(hints []impl.Hint) []impl.Hint {
			return impl.DoneHint(hints, 2, 8999).Hints
		}},
		{"done at the end", func(hints []impl.Hint) []impl.Hint {
			return impl.DoneHint(hints, 1, 8998).Hints
		}},
		{"due are all", func(hints []impl.Hint) []impl.Hint {
			return impl.DueHints(hints, math.MaxInt64).Hints
		}},
		{"due are some", func(hints []impl.Hint) []impl.Hint {
			return impl.DueHints(hints, 20).Hints
		}},
		{"sent", func(hints []impl.Hint) []impl.Hint {
			return impl.SentHint(hints, 1, 9000, 700).Hints
		}},
	} {
		// With room behind it, in which an answer could be put.
		room := longHints(8)
		hints := room[:6]
		want := slices.Clone(c.ask(longHints(6)))
		got, kept := c.ask(hints), c.ask(hints)
		if !slices.Equal(got, want) || len(want) == 0 {
			t.Fatalf("%s: %v; want %v", c.what, got, want)
		}
		spoilHints(got)
		if !slices.Equal(kept, want) {
			t.Errorf("%s: two answers share memory", c.what)
		}
		if !slices.Equal(room, longHints(8)) {
			t.Errorf("%s: the answer shares memory with an argument", c.what)
		}
		if again := c.ask(hints); !slices.Equal(again, want) {
			t.Errorf("%s: the answer is memory that is kept: %v", c.what, again)
		}
		spoilHints(room)
		if !slices.Equal(kept, want) {
			t.Errorf("%s: the answer changes with an argument", c.what)
		}
	}
}
