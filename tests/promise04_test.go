package tests

import (
	"math"
	"math/rand"
	"slices"
	"testing"

	"loop.example/g00791/impl"
)

// Promise 4: a sample is there once, however often it is put there; what is
// asked for is told, in order, and nothing else; what is merged has all of
// both, each once.

// nearSample is a sample of few keys, so that many of them are alike.
func nearSample(r *rand.Rand) impl.Sample {
	return impl.Sample{Series: r.Int63n(4), Time: r.Int63n(6), Id: r.Int63n(5), Value: r.Int63n(2001) - 1000}
}

// nearStore is a store of some of the near samples.
func nearStore(r *rand.Rand) []impl.Sample {
	var list []impl.Sample
	for range r.Intn(120) {
		list = append(list, nearSample(r))
	}
	return plainStore(list)
}

// checkPut puts a sample there, and asks that just that comes of it which the
// document says; it tells what is there then.
func checkPut(t *testing.T, store []impl.Sample, x impl.Sample) []impl.Sample {
	t.Helper()
	isNew := plainPlace(store, x) < 0
	if isNew && len(store) == 160 {
		checkNoStore(t, "no room", impl.InsertSample(store, x), impl.ErrFull)
		return store
	}
	got := impl.InsertSample(store, x)
	checkStore(t, "put there", got, isNew, plainStore(store, []impl.Sample{x}))
	return got.Store
}

func TestSampleIsThereOnce(t *testing.T) {
	list := longStore(12)
	var store []impl.Sample
	for round := range 4 {
		for i, x := range list {
			// It comes again with another Value: the first one stays.
			came := withField(x, 3, x.Value+int64(round))
			got := impl.InsertSample(store, came)
			if got.New != (round == 0) {
				t.Fatalf("%v comes for the time %d, and New is %v", came, round, got.New)
			}
			store = got.Store
			if round > 0 && !slices.Equal(store, list) || round == 0 && len(store) != i+1 {
				t.Fatalf("%v came for the time %d: %v", came, round, store)
			}
			checkFound(t, "found", impl.FindSample(store, came), x)
		}
	}
}

func TestStoreDoesNotHangOnTheOrder(t *testing.T) {
	want := plainStore(keySamples()[9:14])
	var put func(store []impl.Sample, left []impl.Sample)
	put = func(store []impl.Sample, left []impl.Sample) {
		if len(left) == 0 && !slices.Equal(store, want) {
			t.Fatalf("put there in another order: %v; want %v", store, want)
		}
		for i, x := range left {
			put(checkPut(t, store, x), without(left, i))
		}
	}
	put(nil, want)
	r := rand.New(rand.NewSource(4))
	full := longStore(160)
	for range 5 {
		var store []impl.Sample
		for _, i := range r.Perm(len(full)) {
			store = checkPut(t, store, full[i])
		}
		if !slices.Equal(store, full) {
			t.Fatal("filled in another order:", store)
		}
	}
}

func TestManySamplesAreThereOnce(t *testing.T) {
	r := rand.New(rand.NewSource(41))
	for range 20 {
		var store []impl.Sample
		for range 200 {
			store = checkPut(t, store, nearSample(r))
		}
	}
	// With so many keys it becomes full.
	var store []impl.Sample
	for range 1000 {
		store = checkPut(t, store, impl.Sample{Series: r.Int63n(2), Time: r.Int63n(10), Id: r.Int63n(20), Value: r.Int63n(9)})
	}
	if len(store) != impl.MaxSamples {
		t.Error(len(store), "samples are there; want", impl.MaxSamples)
	}
}

func TestWhatIsThereIsFound(t *testing.T) {
	r := rand.New(rand.NewSource(42))
	for range 100 {
		store := nearStore(r)
		for i := range int64(4 * 6 * 5) {
			key := impl.Sample{Series: i / 30, Time: i / 5 % 6, Id: i % 5, Value: r.Int63()}
			if at := plainPlace(store, key); at >= 0 {
				checkFound(t, "there", impl.FindSample(store, key), store[at])
			} else {
				checkNotFound(t, "not there", impl.FindSample(store, key), impl.ErrNone)
			}
		}
	}
}

// plainQuery goes through all, and asks each sample as the document says it.
func plainQuery(store []impl.Sample, series int64, from int64, to int64) []impl.Sample {
	var list []impl.Sample
	for _, x := range store {
		if x.Series == series && from <= x.Time && x.Time <= to {
			list = append(list, x)
		}
	}
	return list
}

func TestWhatIsAskedForIsTold(t *testing.T) {
	r := rand.New(rand.NewSource(43))
	ends := []int64{math.MinInt64, -1, 0, 1, 2, 3, 4, 5, 6, 999, 1000, math.MaxInt64}
	for range 20 {
		store := nearStore(r)
		for series := range int64(impl.MaxSeries + 1) {
			for _, from := range ends {
				for _, to := range ends {
					checkList(t, "asked for", impl.QueryStore(store, series, from, to), plainQuery(store, series, from, to))
				}
			}
		}
	}
}

func TestSeriesTogetherAreTheStore(t *testing.T) {
	r := rand.New(rand.NewSource(44))
	for _, store := range [][]impl.Sample{nil, longStore(1), longStore(160), keySamples(), nearStore(r), nearStore(r)} {
		var all, parts []impl.Sample
		for series := range int64(impl.MaxSeries + 1) {
			all = append(all, impl.QueryStore(store, series, 0, impl.MaxTime).List...)
			for time := range int64(impl.MaxTime + 1) {
				parts = append(parts, impl.QueryStore(store, series, time, time).List...)
			}
		}
		if !slices.Equal(all, store) || !slices.Equal(parts, store) {
			t.Fatalf("series by series %v, and time by time %v; want %v", all, parts, store)
		}
	}
}

func TestLastPlacesOfAllFields(t *testing.T) {
	var list []impl.Sample
	for _, series := range []int64{9, 0} {
		for _, time := range []int64{999, 0} {
			for _, id := range []int64{9999, 0} {
				list = append(list, impl.Sample{Series: series, Time: time, Id: id, Value: 1000 - 2*id%2000})
			}
		}
	}
	want := plainStore(list)
	var store []impl.Sample
	for _, x := range list {
		store = checkPut(t, store, x)
	}
	if !slices.Equal(store, want) {
		t.Fatalf("%v; want %v", store, want)
	}
	checkList(t, "the last series", impl.QueryStore(store, 9, 0, 999), want[4:])
	checkList(t, "the last time", impl.QueryStore(store, 9, 999, 999), want[6:])
	checkList(t, "the first time", impl.QueryStore(store, 0, 0, 0), want[:2])
	checkList(t, "merged with itself", impl.MergeLists(store[4:], store[:4]), want)
}

// checkMerged asks that what is merged has all of a, and of b what a has not.
func checkMerged(t *testing.T, a []impl.Sample, b []impl.Sample) {
	t.Helper()
	got := impl.MergeLists(a, b)
	checkList(t, "merged", got, plainStore(a, b))
	for i, x := range got.List {
		if i > 0 && !plainAhead(got.List[i-1], x) {
			t.Fatalf("%v is not ahead of %v", got.List[i-1], x)
		}
		if !slices.Contains(a, x) && (!slices.Contains(b, x) || plainPlace(a, x) >= 0) {
			t.Fatalf("%v is made up of %v and %v", x, a, b)
		}
	}
	for _, x := range a {
		if !slices.Contains(got.List, x) {
			t.Fatalf("%v of a is not there", x)
		}
	}
	for _, x := range b {
		if plainPlace(got.List, x) < 0 {
			t.Fatalf("the key of %v of b is not there", x)
		}
	}
}

func TestWhatIsMergedHasAllOfBoth(t *testing.T) {
	r := rand.New(rand.NewSource(45))
	for range 300 {
		a, b := nearStore(r), nearStore(r)
		checkMerged(t, a, b)
		checkMerged(t, a, nil)
		checkMerged(t, nil, b)
		merged := impl.MergeLists(a, b).List
		checkList(t, "merged once more with b", impl.MergeLists(merged, b), merged)
		checkList(t, "merged once more with a", impl.MergeLists(a, merged), merged)
		store := a
		for _, x := range b {
			store = checkPut(t, store, x)
		}
		if !slices.Equal(store, merged) {
			t.Fatalf("merged %v, and put there one by one %v", merged, store)
		}
	}
}

func TestWhatIsMergedHasItsBound(t *testing.T) {
	r := rand.New(rand.NewSource(46))
	pool := longStore(170)
	some := func() []impl.Sample {
		var list []impl.Sample
		for _, i := range r.Perm(len(pool))[:60+r.Intn(100)] {
			list = append(list, withField(pool[i], 3, r.Int63n(2001)-1000))
		}
		return plainStore(list)
	}
	met := map[bool]int{}
	for range 500 {
		a, b := some(), some()
		over := len(plainStore(a, b)) > 160
		met[over]++
		if over {
			checkNoList(t, "too many of both", impl.MergeLists(a, b), impl.ErrFull)
		} else {
			checkMerged(t, a, b)
		}
	}
	if met[false] < 20 || met[true] < 20 {
		t.Error("the lists are not met on both sides of the bound:", met)
	}
}
