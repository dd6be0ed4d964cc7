package tests

import (
	"math"
	"slices"
	"sort"
	"testing"

	"loop.example/g00791/impl"
)

// longStore is a store of so many samples; between two of them there is room
// for others.
func longStore(size int) []impl.Sample {
	var store []impl.Sample
	for i := range int64(size) {
		store = append(store, impl.Sample{Series: i / 20, Time: i % 20 * 4, Id: 500 + i, Value: i - 80})
	}
	return store
}

// with is a list with other samples behind it, in memory of its own.
func with(list []impl.Sample, more ...impl.Sample) []impl.Sample {
	return append(slices.Clone(list), more...)
}

// without is a list without the sample at a place.
func without(list []impl.Sample, at int) []impl.Sample {
	return with(list[:at], list[at+1:]...)
}

// instead is a list with another sample at a place.
func instead(list []impl.Sample, at int, x impl.Sample) []impl.Sample {
	list = slices.Clone(list)
	list[at] = x
	return list
}

// plainPlace tells where the first sample with this key is, by going through
// all, or -1.
func plainPlace(list []impl.Sample, key impl.Sample) int {
	for i, x := range list {
		if x.Series == key.Series && x.Time == key.Time && x.Id == key.Id {
			return i
		}
	}
	return -1
}

// plainStore has the first sample of each key of all these lists, in order.
func plainStore(lists ...[]impl.Sample) []impl.Sample {
	var store []impl.Sample
	for _, list := range lists {
		for _, x := range list {
			if plainPlace(store, x) < 0 {
				store = append(store, x)
			}
		}
	}
	sort.Slice(store, func(i int, j int) bool { return plainAhead(store[i], store[j]) })
	return store
}

// plainStoreFault tells of a store as the document writes it, each sample held
// against all behind it.
func plainStoreFault(store []impl.Sample) int64 {
	if len(store) > 160 {
		return impl.ErrMany
	}
	for _, x := range store {
		if plainSampleFault(x) != impl.OK {
			return impl.ErrRange
		}
	}
	for i, x := range store {
		for _, y := range store[i+1:] {
			if !plainAhead(x, y) {
				return impl.ErrForm
			}
		}
	}
	return impl.OK
}

type faultyStore struct {
	what  string
	store []impl.Sample
	code  int64
}

func faultyStores() []faultyStore {
	full := longStore(160)
	bad := impl.Sample{Series: 3, Time: 20, Id: 10000}
	list := []faultyStore{
		{"one too many", longStore(161), impl.ErrMany},
		{"one too many, none rising", make([]impl.Sample, 161), impl.ErrMany},
		{"one too many, the first one with a fault", instead(longStore(161), 0, bad), impl.ErrMany},
		{"one too many, the last one with a fault", with(full, bad), impl.ErrMany},
		{"many too many", make([]impl.Sample, 5000), impl.ErrMany},
		{"a fault at the front", instead(full, 0, impl.Sample{Series: -1}), impl.ErrRange},
		{"a fault between", instead(full, 80, bad), impl.ErrRange},
		{"a fault at the end", instead(full, 159, impl.Sample{Series: 10}), impl.ErrRange},
		{"a fault behind what does not rise", []impl.Sample{full[1], full[0], bad}, impl.ErrRange},
		{"a fault ahead of what does not rise", []impl.Sample{bad, full[1], full[0]}, impl.ErrRange},
		{"one fault, twice", []impl.Sample{bad, bad}, impl.ErrRange},
		{"turned around", []impl.Sample{full[1], full[0]}, impl.ErrForm},
		{"a series turned around", []impl.Sample{{Series: 2}, {Series: 1, Time: 9, Id: 9}}, impl.ErrForm},
		{"a time turned around", []impl.Sample{{Time: 2}, {Time: 1, Id: 9}}, impl.ErrForm},
		{"an id turned around", []impl.Sample{{Id: 2, Value: 1}, {Id: 1, Value: 2}}, impl.ErrForm},
		{"one twice", []impl.Sample{full[0], full[0]}, impl.ErrForm},
		{"one key, the values rising", []impl.Sample{{Value: 1}, {Value: 2}}, impl.ErrForm},
		{"one key, the values falling", []impl.Sample{{Value: 2}, {Value: 1}}, impl.ErrForm},
		{"one twice at the front", with([]impl.Sample{full[0]}, full[:159]...), impl.ErrForm},
		{"one twice at the end", instead(full, 159, full[158]), impl.ErrForm},
		{"two turned around at the end", instead(instead(full, 158, full[159]), 159, full[158]), impl.ErrForm},
		{"all alike", make([]impl.Sample, 160), impl.ErrForm},
	}
	for _, x := range faultySamples() {
		list = append(list, faultyStore{"a fault alone", []impl.Sample{x}, impl.ErrRange})
	}
	return list
}

func checkStore(t *testing.T, what string, got impl.StoreResult, isNew bool, want []impl.Sample) {
	t.Helper()
	if got.Code != impl.OK || got.New != isNew || !slices.Equal(got.Store, want) {
		t.Fatalf("%s: %v; want New %v and %v", what, got, isNew, want)
	}
}

func checkNoStore(t *testing.T, what string, got impl.StoreResult, code int64) {
	t.Helper()
	if got.Code != code || got.New || len(got.Store) != 0 {
		t.Fatalf("%s: %v; want the code %d alone", what, got, code)
	}
}

func checkList(t *testing.T, what string, got impl.SamplesResult, want []impl.Sample) {
	t.Helper()
	if got.Code != impl.OK || !slices.Equal(got.List, want) {
		t.Fatalf("%s: %v; want %v", what, got, want)
	}
}

func checkNoList(t *testing.T, what string, got impl.SamplesResult, code int64) {
	t.Helper()
	if got.Code != code || len(got.List) != 0 {
		t.Fatalf("%s: %v; want the code %d alone", what, got, code)
	}
}

func checkFound(t *testing.T, what string, got impl.SampleResult, want impl.Sample) {
	t.Helper()
	if got != (impl.SampleResult{Sample: want}) {
		t.Fatalf("%s: %v; want %v", what, got, want)
	}
}

func checkNotFound(t *testing.T, what string, got impl.SampleResult, code int64) {
	t.Helper()
	if got != (impl.SampleResult{Code: code}) {
		t.Fatalf("%s: %v; want the code %d alone", what, got, code)
	}
}

func TestStoreConstant(t *testing.T) {
	if impl.MaxSamples != 160 {
		t.Error("MaxSamples is", impl.MaxSamples)
	}
}

func TestStoreFault(t *testing.T) {
	for size := range 161 {
		if got := impl.StoreFault(longStore(size)); got != impl.OK {
			t.Errorf("StoreFault of %d samples = %d; want none", size, got)
		}
	}
	for _, store := range [][]impl.Sample{
		nil,
		{},
		{{Series: 9, Time: 999, Id: 9999, Value: -1000}},
		{{Value: 1000}, {Id: 1}, {Time: 1}, {Series: 1}},
		{{Time: 999, Id: 9999}, {Series: 1}},
		{{Id: 9999}, {Time: 1}},
		keySamples(),
	} {
		if got := impl.StoreFault(store); got != impl.OK {
			t.Errorf("StoreFault(%v) = %d; want none", store, got)
		}
	}
	for _, c := range faultyStores() {
		if plainStoreFault(c.store) != c.code {
			t.Fatal(c.what, "is told in two ways by the tests")
		}
		if got := impl.StoreFault(c.store); got != c.code {
			t.Errorf("%s: StoreFault = %d; want %d", c.what, got, c.code)
		}
	}
}

func TestFaultsOfStoresAreAskedFirst(t *testing.T) {
	whole := impl.Sample{Series: 1, Time: 2, Id: 3, Value: 4}
	bad := impl.Sample{Value: 1001}
	for _, c := range faultyStores() {
		for _, x := range []impl.Sample{whole, bad} {
			checkNoStore(t, c.what, impl.InsertSample(c.store, x), c.code)
			checkNotFound(t, c.what, impl.FindSample(c.store, x), c.code)
		}
		// One with a key that is there, too.
		checkNoStore(t, c.what, impl.InsertSample(c.store, c.store[0]), c.code)
		checkNotFound(t, c.what, impl.FindSample(c.store, c.store[0]), c.code)
		for _, series := range []int64{0, 9, -1, 10} {
			checkNoList(t, c.what, impl.QueryStore(c.store, series, 0, 999), c.code)
			checkNoList(t, c.what, impl.QueryStore(c.store, series, 1, 0), c.code)
		}
	}
}

func TestFaultsOfBothListsAreAsked(t *testing.T) {
	for _, c := range faultyStores()[:30] {
		for _, whole := range [][]impl.Sample{nil, {}, {{Id: 1}}, longStore(160)} {
			checkNoList(t, c.what+", as a", impl.MergeLists(c.store, whole), c.code)
			checkNoList(t, c.what+", as b", impl.MergeLists(whole, c.store), c.code)
		}
		for _, d := range faultyStores()[:30] {
			checkNoList(t, c.what+", then "+d.what, impl.MergeLists(c.store, d.store), c.code)
		}
	}
}

func TestInsertSample(t *testing.T) {
	a := impl.Sample{Series: 1, Time: 5, Id: 5, Value: 7}
	b := impl.Sample{Series: 1, Time: 5, Id: 7, Value: -7}
	for _, c := range []struct {
		what string
		x    impl.Sample
		want []impl.Sample
	}{
		{"a lower series", impl.Sample{Series: 0, Time: 999, Id: 9999}, []impl.Sample{{Series: 0, Time: 999, Id: 9999}, a, b}},
		{"a lower time", impl.Sample{Series: 1, Time: 4, Id: 9999}, []impl.Sample{{Series: 1, Time: 4, Id: 9999}, a, b}},
		{"a lower id", impl.Sample{Series: 1, Time: 5, Id: 4}, []impl.Sample{{Series: 1, Time: 5, Id: 4}, a, b}},
		{"an id between", impl.Sample{Series: 1, Time: 5, Id: 6}, []impl.Sample{a, {Series: 1, Time: 5, Id: 6}, b}},
		{"a higher id", impl.Sample{Series: 1, Time: 5, Id: 8}, []impl.Sample{a, b, {Series: 1, Time: 5, Id: 8}}},
		{"a higher time", impl.Sample{Series: 1, Time: 6}, []impl.Sample{a, b, {Series: 1, Time: 6}}},
		{"a higher series", impl.Sample{Series: 2}, []impl.Sample{a, b, {Series: 2}}},
	} {
		checkStore(t, c.what, impl.InsertSample([]impl.Sample{a, b}, c.x), true, c.want)
	}
	checkStore(t, "into nothing", impl.InsertSample(nil, a), true, []impl.Sample{a})
	checkStore(t, "into an empty list", impl.InsertSample([]impl.Sample{}, impl.Sample{}), true, []impl.Sample{{}})
	checkStore(t, "there alone", impl.InsertSample([]impl.Sample{{}}, impl.Sample{}), false, []impl.Sample{{}})
	for _, value := range []int64{-1000, -7, 0, 7, 8, 1000} {
		checkStore(t, "there", impl.InsertSample([]impl.Sample{a, b}, withField(a, 3, value)), false, []impl.Sample{a, b})
		checkStore(t, "there at the end", impl.InsertSample([]impl.Sample{a, b}, withField(b, 3, value)), false, []impl.Sample{a, b})
	}
	for _, x := range faultySamples() {
		for _, store := range [][]impl.Sample{nil, {a, b}, longStore(160)} {
			checkNoStore(t, "a sample with a fault", impl.InsertSample(store, x), impl.ErrRange)
		}
	}
	// The key is there, but the Value is none: the fault is asked first.
	checkNoStore(t, "there, with a fault", impl.InsertSample([]impl.Sample{a, b}, withField(a, 3, 1001)), impl.ErrRange)
}

func TestInsertIntoFullStore(t *testing.T) {
	full := longStore(160)
	for i, x := range full {
		less := without(full, i)
		checkStore(t, "the last room", impl.InsertSample(less, x), true, full)
		checkStore(t, "there in a full store", impl.InsertSample(full, x), false, full)
		checkStore(t, "there with another value", impl.InsertSample(full, withField(x, 3, 1000)), false, full)
		for _, id := range []int64{0, x.Id - 1, x.Id + 1, 9999} {
			other := withField(x, 2, id)
			checkNoStore(t, "no room", impl.InsertSample(full, other), impl.ErrFull)
			checkStore(t, "room for one", impl.InsertSample(less, other), true, plainStore(less, []impl.Sample{other}))
		}
	}
	checkNoStore(t, "no room at the front", impl.InsertSample(full, impl.Sample{}), impl.ErrFull)
	checkNoStore(t, "no room at the end", impl.InsertSample(full, impl.Sample{Series: 9, Time: 999, Id: 9999}), impl.ErrFull)
}

func TestFindSample(t *testing.T) {
	for _, size := range []int{1, 2, 3, 20, 21, 159, 160} {
		store := longStore(size)
		for _, x := range store {
			// The Value is not looked at, not even where it leaves its bounds.
			for _, value := range []int64{x.Value, -x.Value, 0, 1001, math.MinInt64, math.MaxInt64} {
				checkFound(t, "there", impl.FindSample(store, withField(x, 3, value)), x)
			}
			for field, n := range []int64{9, x.Time + 1, x.Id + 1} {
				checkNotFound(t, "another key", impl.FindSample(store, withField(x, field, n)), impl.ErrNone)
			}
			for field := range 3 {
				for _, n := range []int64{-1, 65536, math.MinInt64, math.MaxInt64} {
					checkNotFound(t, "a key out of bounds", impl.FindSample(store, withField(x, field, n)), impl.ErrNone)
				}
			}
		}
	}
	for _, none := range [][]impl.Sample{nil, {}} {
		checkNotFound(t, "in nothing", impl.FindSample(none, impl.Sample{}), impl.ErrNone)
		checkNotFound(t, "a fault in nothing", impl.FindSample(none, impl.Sample{Series: 10, Value: 2000}), impl.ErrNone)
	}
	checkNotFound(t, "zero is not there", impl.FindSample(longStore(160), impl.Sample{}), impl.ErrNone)
	checkFound(t, "zero is there", impl.FindSample([]impl.Sample{{Value: 5}}, impl.Sample{}), impl.Sample{Value: 5})
}

func TestQueryStore(t *testing.T) {
	store := []impl.Sample{
		{Series: 0, Time: 5, Id: 1, Value: 1},
		{Series: 1, Time: 0, Id: 9, Value: 2},
		{Series: 1, Time: 5, Id: 2, Value: 3},
		{Series: 1, Time: 5, Id: 3, Value: 4},
		{Series: 1, Time: 999, Id: 1, Value: 5},
		{Series: 2, Time: 5, Id: 4, Value: 6},
	}
	for _, c := range []struct {
		what             string
		series, from, to int64
		want             []impl.Sample
	}{
		{"all of a series", 1, 0, 999, store[1:5]},
		{"from any to any", 1, math.MinInt64, math.MaxInt64, store[1:5]},
		{"from below to above", 1, -1, 1000, store[1:5]},
		{"both ends are in it", 1, 5, 999, store[2:5]},
		{"from 0 on", 1, 0, 5, store[1:4]},
		{"one time", 1, 5, 5, store[2:4]},
		{"the time 0 alone", 1, 0, 0, store[1:2]},
		{"the last time alone", 1, 999, 999, store[4:5]},
		{"just inside", 1, 1, 998, store[2:4]},
		{"just beside", 1, 6, 998, nil},
		{"just ahead", 1, 1, 4, nil},
		{"to the least", 1, math.MinInt64, math.MinInt64, nil},
		{"from the most", 1, math.MaxInt64, math.MaxInt64, nil},
		{"to below", 1, math.MinInt64, -1, nil},
		{"from above", 1, 1000, math.MaxInt64, nil},
		{"turned around", 1, 999, 0, nil},
		{"turned around by one", 1, 6, 5, nil},
		{"turned around as far as may be", 1, math.MaxInt64, math.MinInt64, nil},
		{"the first series", 0, 0, 999, store[:1]},
		{"the last one", 2, 0, 999, store[5:]},
		{"a series of which there is none", 3, 0, 999, nil},
		{"the last series that may be", 9, 0, 999, nil},
	} {
		checkList(t, c.what, impl.QueryStore(store, c.series, c.from, c.to), c.want)
	}
	for _, series := range []int64{-1, 10, 11, 256, math.MinInt64, math.MaxInt64} {
		for _, list := range [][]impl.Sample{nil, store, longStore(160)} {
			checkNoList(t, "a series out of bounds", impl.QueryStore(list, series, 0, 999), impl.ErrRange)
			checkNoList(t, "a series out of bounds, turned around", impl.QueryStore(list, series, 5, 4), impl.ErrRange)
		}
	}
	for series := range int64(10) {
		checkList(t, "of nothing", impl.QueryStore(nil, series, 0, 999), nil)
		checkList(t, "of an empty list", impl.QueryStore([]impl.Sample{}, series, 0, 999), nil)
	}
}

func TestMergeLists(t *testing.T) {
	a := impl.Sample{Series: 1, Time: 5, Id: 1, Value: 7}
	b := impl.Sample{Series: 1, Time: 2, Id: 9, Value: 8}
	c := impl.Sample{Series: 0, Time: 9, Id: 2, Value: 9}
	d := withField(a, 3, -7)
	for _, m := range []struct {
		what       string
		a, b, want []impl.Sample
	}{
		{"nothing", nil, nil, nil},
		{"empty lists", []impl.Sample{}, []impl.Sample{}, nil},
		{"a alone", []impl.Sample{c, b, a}, nil, []impl.Sample{c, b, a}},
		{"b alone", nil, []impl.Sample{c, b, a}, []impl.Sample{c, b, a}},
		{"both the same", []impl.Sample{c, b, a}, []impl.Sample{c, b, a}, []impl.Sample{c, b, a}},
		{"a ahead", []impl.Sample{c}, []impl.Sample{b, a}, []impl.Sample{c, b, a}},
		{"b ahead", []impl.Sample{b, a}, []impl.Sample{c}, []impl.Sample{c, b, a}},
		{"b between", []impl.Sample{c, a}, []impl.Sample{b}, []impl.Sample{c, b, a}},
		{"a between", []impl.Sample{b}, []impl.Sample{c, a}, []impl.Sample{c, b, a}},
		{"one of both, with another value", []impl.Sample{c, a}, []impl.Sample{b, d}, []impl.Sample{c, b, a}},
		{"so turned around", []impl.Sample{b, d}, []impl.Sample{c, a}, []impl.Sample{c, b, d}},
		{"that alone", []impl.Sample{a}, []impl.Sample{d}, []impl.Sample{a}},
		{"that alone, turned around", []impl.Sample{d}, []impl.Sample{a}, []impl.Sample{d}},
	} {
		checkList(t, m.what, impl.MergeLists(m.a, m.b), m.want)
	}
}

func TestMergeFullLists(t *testing.T) {
	full := longStore(160)
	other := slices.Clone(full)
	for i := range other {
		other[i].Value = 1000
	}
	checkList(t, "full, with nothing", impl.MergeLists(full, nil), full)
	checkList(t, "nothing, with full", impl.MergeLists(nil, full), full)
	checkList(t, "both full, the same", impl.MergeLists(full, full), full)
	checkList(t, "both full, other values", impl.MergeLists(full, other), full)
	checkList(t, "turned around", impl.MergeLists(other, full), other)
	for _, cut := range []int{1, 79, 80, 81, 159} {
		checkList(t, "just full", impl.MergeLists(full[:cut], full[cut:]), full)
		checkList(t, "just full, turned around", impl.MergeLists(full[cut:], full[:cut]), full)
		checkList(t, "just full, one in both", impl.MergeLists(full[:cut], full[cut-1:]), full)
	}
	over := longStore(161)
	for _, cut := range []int{2, 79, 80, 81, 159} {
		checkNoList(t, "one too many", impl.MergeLists(over[:cut], over[cut:]), impl.ErrFull)
		checkNoList(t, "one too many, turned around", impl.MergeLists(over[cut:], over[:cut]), impl.ErrFull)
		checkNoList(t, "one too many, one in both", impl.MergeLists(over[:cut], over[cut-1:]), impl.ErrFull)
	}
	checkNoList(t, "no room for one of b", impl.MergeLists(full, []impl.Sample{{Id: 1}}), impl.ErrFull)
	checkNoList(t, "no room for one of a", impl.MergeLists([]impl.Sample{{Id: 1}}, full), impl.ErrFull)
	apart := slices.Clone(full)
	for i := range apart {
		apart[i].Time++
	}
	checkNoList(t, "both full, none in both", impl.MergeLists(full, apart), impl.ErrFull)
}

func TestSameSamples(t *testing.T) {
	x := impl.Sample{Series: 1, Time: 2, Id: 3, Value: 4}
	y := impl.Sample{Series: math.MinInt64, Time: math.MaxInt64, Id: -1, Value: 5000}
	for _, c := range []struct {
		a, b []impl.Sample
		want bool
	}{
		{nil, nil, true},
		{nil, []impl.Sample{}, true},
		{[]impl.Sample{x}, []impl.Sample{x}, true},
		// These are no stores: it is asked of any.
		{[]impl.Sample{y}, []impl.Sample{y}, true},
		{[]impl.Sample{x, y, x, x}, []impl.Sample{x, y, x, x}, true},
		{longStore(160), longStore(160), true},
		{longStore(200), longStore(200), true},
		{nil, []impl.Sample{{}}, false},
		{[]impl.Sample{{}}, []impl.Sample{{}, {}}, false},
		{[]impl.Sample{x, y}, []impl.Sample{y, x}, false},
		{[]impl.Sample{x, y}, []impl.Sample{x}, false},
		{[]impl.Sample{x, y}, []impl.Sample{x, x}, false},
		{[]impl.Sample{x, x, y}, []impl.Sample{x, y, y}, false},
		{longStore(160), longStore(159), false},
		{longStore(200), longStore(201), false},
	} {
		if impl.SameSamples(c.a, c.b) != c.want || impl.SameSamples(c.b, c.a) != c.want {
			t.Errorf("SameSamples of %v and %v is not %v", c.a, c.b, c.want)
		}
	}
	list := longStore(5)
	for at := range list {
		for field := range 4 {
			other := instead(list, at, withField(list[at], field, 77))
			if impl.SameSamples(list, other) || impl.SameSamples(other, list) {
				t.Errorf("SameSamples of %v and %v", list, other)
			}
		}
	}
}
