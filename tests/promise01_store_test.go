package tests

import (
	"math"
	"reflect"
	"slices"
	"testing"

	"loop.example/g00791/impl"
)

// Promise 1, of the functions of chapter 3.

func oddStores() [][]impl.Sample {
	list := [][]impl.Sample{
		nil, {}, {{}},
		longStore(1), longStore(2), longStore(159), longStore(160), longStore(161),
		keySamples(), endSamples(), anySamples(),
		make([]impl.Sample, 100000),
	}
	for _, c := range faultyStores()[:30] {
		list = append(list, c.store)
	}
	for _, n := range []int64{math.MinInt64, -1, 1000, 65536, math.MaxInt64} {
		list = append(list, []impl.Sample{{Series: n, Time: n, Id: n, Value: n}})
	}
	return list
}

// keysTo are samples that are there, that are not, and that have a fault.
func keysTo(store []impl.Sample) []impl.Sample {
	list := []impl.Sample{
		{}, {Series: 9, Time: 999, Id: 9999, Value: 1000}, {Series: 4, Time: 7, Id: 7, Value: -7},
		{Series: -1}, {Time: 1000}, {Id: math.MaxInt64}, {Value: math.MinInt64},
	}
	for _, at := range []int{0, len(store) / 2, len(store) - 1} {
		if at >= 0 && at < len(store) {
			list = append(list, store[at], withField(store[at], 3, 5), withField(store[at], 2, 5))
		}
	}
	return list
}

// storesOfAll asks the functions of stores one store each; the answers are
// held against one another.
func storesOfAll(store []impl.Sample) []any {
	list := []any{
		impl.StoreFault(store),
		impl.MergeLists(store, nil),
		impl.MergeLists(nil, store),
		impl.MergeLists(store, store),
		impl.MergeLists(store, longStore(40)),
		impl.MergeLists(longStore(160), store),
		impl.SameSamples(store, store),
		impl.SameSamples(store, longStore(1)),
	}
	for _, x := range keysTo(store) {
		list = append(list, impl.InsertSample(store, x), impl.FindSample(store, x))
	}
	for _, n := range []int64{math.MinInt64, -1, 0, 1, 9, 10, 999, math.MaxInt64} {
		list = append(list, impl.QueryStore(store, n, 0, 999), impl.QueryStore(store, 0, n, 9), impl.QueryStore(store, 0, 0, n))
	}
	return list
}

func TestStoresAnswerAtEveryArgument(t *testing.T) {
	for _, store := range oddStores() {
		fault := plainStoreFault(store)
		if got := impl.StoreFault(store); got != fault {
			t.Fatalf("StoreFault of %d samples = %d; want %d", len(store), got, fault)
		}
		storesOfAll(store)
		for _, other := range oddStores() {
			got := impl.MergeLists(store, other)
			if fault != impl.OK {
				checkNoList(t, "merged with a fault", got, fault)
			} else if more := plainStoreFault(other); more != impl.OK {
				checkNoList(t, "merged with another one's fault", got, more)
			}
		}
	}
	numbers := oddNumbers()
	for _, n := range numbers {
		code := int64(impl.OK)
		if n < 0 || n > 9 {
			code = impl.ErrRange
		}
		for _, m := range numbers {
			for _, got := range []impl.SamplesResult{impl.QueryStore(nil, n, m, m), impl.QueryStore(longStore(3), n, m, -9)} {
				if got.Code != code || code != impl.OK && len(got.List) != 0 {
					t.Fatalf("QueryStore of the series %d, %d: %v", n, m, got)
				}
			}
			checkList(t, "from any to any", impl.QueryStore(longStore(3), 0, n, m), plainQuery(longStore(3), 0, n, m))
		}
	}
}

func TestStoresChangeNoArgument(t *testing.T) {
	behind := longStore(4)
	for _, store := range oddStores() {
		// What lies in memory behind the argument is not touched, either.
		room := with(store, behind...)
		kept := slices.Clone(room)
		storesOfAll(room[:len(store)])
		if !slices.Equal(room, kept) {
			t.Errorf("a list of %d samples was changed", len(store))
		}
	}
}

func TestStoresHangOnArgumentsAlone(t *testing.T) {
	stores := oddStores()
	var first [][]any
	for _, store := range stores {
		first = append(first, storesOfAll(store))
	}
	for round := range 5 {
		for i := len(stores) - 1; i >= 0; i-- {
			// Other memory, with other room behind it, in another order.
			same := append(make([]impl.Sample, 0, len(stores[i])+round), stores[i]...)
			if again := storesOfAll(same); !reflect.DeepEqual(first[i], again) {
				t.Errorf("a list of %d samples is answered in two ways", len(same))
			}
		}
	}
	if a, b := storesOfAll(nil), storesOfAll([]impl.Sample{}); !reflect.DeepEqual(a, b) {
		t.Error("nil and an empty list are answered in two ways:", a, b)
	}
}

// spoil writes over all samples that a list has, and over the room behind it.
func spoil(list []impl.Sample) {
	list = list[:cap(list)]
	for i := range list {
		list[i] = impl.Sample{Series: -5, Time: -5, Id: -5, Value: -5}
	}
}

func mergedList(a []impl.Sample, b []impl.Sample) []impl.Sample {
	return impl.MergeLists(a, b).List
}

func TestListsOfSamplesAreNewMemory(t *testing.T) {
	whole := longStore(20)
	for _, c := range []struct {
		what string
		ask  func(a []impl.Sample, b []impl.Sample) []impl.Sample
	}{
		{"insert at the front", func(a []impl.Sample, b []impl.Sample) []impl.Sample {
			return impl.InsertSample(a, impl.Sample{}).Store
		}},
		{"insert at the end", func(a []impl.Sample, b []impl.Sample) []impl.Sample {
			return impl.InsertSample(a, impl.Sample{Series: 9}).Store
		}},
		{"insert what is there", func(a []impl.Sample, b []impl.Sample) []impl.Sample {
			return impl.InsertSample(a, a[3]).Store
		}},
		{"ask for all", func(a []impl.Sample, b []impl.Sample) []impl.Sample {
			return impl.QueryStore(a, 0, 0, 999).List
		}},
		{"ask for some", func(a []impl.Sample, b []impl.Sample) []impl.Sample {
			return impl.QueryStore(a, 0, a[2].Time, a[4].Time).List
		}},
		{"merge both", mergedList},
		{"merge with nothing", func(a []impl.Sample, b []impl.Sample) []impl.Sample {
			return mergedList(a, nil)
		}},
		{"merge nothing with it", func(a []impl.Sample, b []impl.Sample) []impl.Sample {
			return mergedList(nil, b)
		}},
		{"merge with itself", func(a []impl.Sample, b []impl.Sample) []impl.Sample {
			return mergedList(a, a)
		}},
	} {
		// With room on both sides, in which an answer could be put.
		aRoom, bRoom := longStore(25), longStore(25)
		a, b := aRoom[:12], bRoom[8:20]
		want := slices.Clone(c.ask(whole[:12], whole[8:]))
		got, kept := c.ask(a, b), c.ask(a, b)
		if !slices.Equal(got, want) || len(want) == 0 {
			t.Fatalf("%s: %v; want %v", c.what, got, want)
		}
		spoil(got)
		if !slices.Equal(kept, want) {
			t.Errorf("%s: two answers share memory", c.what)
		}
		if !slices.Equal(aRoom, longStore(25)) || !slices.Equal(bRoom, longStore(25)) {
			t.Errorf("%s: the answer shares memory with an argument", c.what)
		}
		if again := c.ask(a, b); !slices.Equal(again, want) {
			t.Errorf("%s: the answer is memory that is kept: %v", c.what, again)
		}
		spoil(aRoom)
		spoil(bRoom)
		if !slices.Equal(kept, want) {
			t.Errorf("%s: the answer changes with an argument", c.what)
		}
	}
}
