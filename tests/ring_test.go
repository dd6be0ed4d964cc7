package tests

import (
	"math"
	"slices"
	"testing"

	"loop.example/g00791/impl"
)

// plainNodeSpots and plainSeriesSpots are written out by hand.
func plainNodeSpots() []int64 {
	return []int64{11, 48, 21, 58}
}

func plainSeriesSpots() []int64 {
	return []int64{5, 34, 63, 28, 57, 22, 51, 16, 45, 10}
}

// plainOrders are, of each series, all four nodes as they come behind it,
// written out by hand.
func plainOrders() [][]int64 {
	return [][]int64{
		{0, 2, 1, 3},
		{1, 3, 0, 2},
		{0, 2, 1, 3},
		{1, 3, 0, 2},
		{3, 0, 2, 1},
		{1, 3, 0, 2},
		{3, 0, 2, 1},
		{2, 1, 3, 0},
		{1, 3, 0, 2},
		{0, 2, 1, 3},
	}
}

// plainPlaces goes around the ring once, spot by spot, and takes along each
// node that is met; it has no places where the document says ErrRange.
func plainPlaces(nodes int64, series int64) []impl.Place {
	if nodes < 1 || nodes > 4 || series < 0 || series > 9 {
		return nil
	}
	var places []impl.Place
	spot := plainSeriesSpots()[series]
	for far := range int64(64) {
		for node, at := range plainNodeSpots()[:nodes] {
			if at == spot {
				places = append(places, impl.Place{Far: far, Node: int64(node)})
			}
		}
		spot++
		if spot == 64 {
			spot = 0
		}
	}
	return places
}

// plainHomes has nobody where the document says ErrRange.
func plainHomes(nodes int64, copies int64, series int64) []int64 {
	places := plainPlaces(nodes, series)
	if copies < 1 || copies > int64(len(places)) {
		return nil
	}
	var homes []int64
	for _, p := range places[:copies] {
		homes = append(homes, p.Node)
	}
	return homes
}

// checkSpot asks for this spot, or, with -1, for ErrRange alone.
func checkSpot(t *testing.T, what string, got impl.IntResult, spot int64) {
	t.Helper()
	want := impl.IntResult{Value: spot}
	if spot < 0 {
		want = impl.IntResult{Code: impl.ErrRange}
	}
	if got != want {
		t.Errorf("%s: %v; want %v", what, got, want)
	}
}

// checkPlaces asks for just these places, or, where there are none, for
// ErrRange alone.
func checkPlaces(t *testing.T, nodes int64, series int64, want []impl.Place) {
	t.Helper()
	code := int64(impl.OK)
	if len(want) == 0 {
		code = impl.ErrRange
	}
	if got := impl.PlacesOf(nodes, series); got.Code != code || !slices.Equal(got.Places, want) {
		t.Errorf("PlacesOf(%d, %d) = %v; want the code %d and %v", nodes, series, got, code, want)
	}
}

// checkHomes asks for just these homes, or, where there are none, for ErrRange
// alone.
func checkHomes(t *testing.T, nodes int64, copies int64, series int64, want []int64) {
	t.Helper()
	code := int64(impl.OK)
	if len(want) == 0 {
		code = impl.ErrRange
	}
	if got := impl.HomesOf(nodes, copies, series); got.Code != code || !slices.Equal(got.List, want) {
		t.Errorf("HomesOf(%d, %d, %d) = %v; want the code %d and %v", nodes, copies, series, got, code, want)
	}
}

// numbersPast are a little below and above the bounds, and far from them.
func numbersPast(low int64, high int64) []int64 {
	return []int64{
		low - 1, low - 2, low - 64, high + 1, high + 2, high + 64, high + 256, low + 1<<32,
		math.MinInt64, math.MinInt64 + 1, math.MaxInt64, math.MaxInt64 - 1,
	}
}

func TestRingConstants(t *testing.T) {
	if impl.RingSize != 64 {
		t.Error("RingSize is", impl.RingSize)
	}
}

func TestNodeSpot(t *testing.T) {
	for node, spot := range plainNodeSpots() {
		checkSpot(t, "a node", impl.NodeSpot(int64(node)), spot)
	}
	for _, node := range numbersPast(0, 3) {
		checkSpot(t, "no node", impl.NodeSpot(node), -1)
	}
}

func TestSeriesSpot(t *testing.T) {
	for series, spot := range plainSeriesSpots() {
		checkSpot(t, "a series", impl.SeriesSpot(int64(series)), spot)
	}
	for _, series := range numbersPast(0, 9) {
		checkSpot(t, "no series", impl.SeriesSpot(series), -1)
	}
}

func TestPlacesOf(t *testing.T) {
	for _, c := range []struct {
		nodes  int64
		series int64
		want   []impl.Place
	}{
		{3, 0, []impl.Place{{Far: 6, Node: 0}, {Far: 16, Node: 2}, {Far: 43, Node: 1}}},
		{4, 0, []impl.Place{{Far: 6, Node: 0}, {Far: 16, Node: 2}, {Far: 43, Node: 1}, {Far: 53, Node: 3}}},
		// Behind the last spot of the ring comes the first one.
		{4, 2, []impl.Place{{Far: 12, Node: 0}, {Far: 22, Node: 2}, {Far: 49, Node: 1}, {Far: 59, Node: 3}}},
		{4, 4, []impl.Place{{Far: 1, Node: 3}, {Far: 18, Node: 0}, {Far: 28, Node: 2}, {Far: 55, Node: 1}}},
		// A node one spot ahead of the series is nearly a whole turn behind it.
		{4, 5, []impl.Place{{Far: 26, Node: 1}, {Far: 36, Node: 3}, {Far: 53, Node: 0}, {Far: 63, Node: 2}}},
		{1, 5, []impl.Place{{Far: 53, Node: 0}}},
		{1, 9, []impl.Place{{Far: 1, Node: 0}}},
		{2, 7, []impl.Place{{Far: 32, Node: 1}, {Far: 59, Node: 0}}},
	} {
		checkPlaces(t, c.nodes, c.series, c.want)
	}
	for nodes := int64(1); nodes <= 4; nodes++ {
		for series := range int64(10) {
			checkPlaces(t, nodes, series, plainPlaces(nodes, series))
		}
	}
}

func TestPlacesOfNone(t *testing.T) {
	for _, nodes := range numbersPast(1, 4) {
		for _, series := range append(numbersPast(0, 9), 0, 5, 9) {
			checkPlaces(t, nodes, series, nil)
		}
	}
	for nodes := int64(1); nodes <= 4; nodes++ {
		for _, series := range numbersPast(0, 9) {
			checkPlaces(t, nodes, series, nil)
		}
	}
}

func TestHomesOf(t *testing.T) {
	for series, order := range plainOrders() {
		for nodes := int64(1); nodes <= 4; nodes++ {
			var there []int64
			for _, node := range order {
				if node < nodes {
					there = append(there, node)
				}
			}
			for copies := int64(1); copies <= nodes; copies++ {
				checkHomes(t, nodes, copies, int64(series), there[:copies])
			}
		}
	}
}

func TestHomesOfNone(t *testing.T) {
	for nodes := int64(1); nodes <= 4; nodes++ {
		for series := range int64(10) {
			for _, copies := range append(numbersPast(1, nodes), 0) {
				checkHomes(t, nodes, copies, series, nil)
			}
		}
		for _, series := range numbersPast(0, 9) {
			checkHomes(t, nodes, 1, series, nil)
			checkHomes(t, nodes, nodes, series, nil)
		}
	}
	for _, nodes := range numbersPast(1, 4) {
		for _, copies := range []int64{nodes, nodes - 1, -1, 0, 1, 2, 4, 5} {
			checkHomes(t, nodes, copies, 0, nil)
			checkHomes(t, nodes, copies, 10, nil)
		}
	}
}

func TestIsHome(t *testing.T) {
	for _, c := range []struct {
		nodes  int64
		copies int64
		series int64
		node   int64
		want   bool
	}{
		{3, 2, 0, 0, true},
		{3, 2, 0, 2, true},
		{3, 2, 0, 1, false},
		{3, 3, 0, 1, true},
		{3, 3, 0, 3, false},
		{4, 1, 4, 3, true},
		{3, 1, 4, 3, false},
		{3, 1, 4, 0, true},
		{1, 1, 9, 0, true},
		{1, 1, 9, 1, false},
		{1, 1, 9, -1, false},
		{4, 4, 0, 4, false},
		// HomesOf has a code: nobody is a home, neither is node 0.
		{0, 1, 0, 0, false},
		{5, 1, 0, 0, false},
		{3, 0, 0, 0, false},
		{3, 4, 0, 0, false},
		{3, 2, 10, 0, false},
		{3, 2, -1, 0, false},
	} {
		if got := impl.IsHome(c.nodes, c.copies, c.series, c.node); got != c.want {
			t.Errorf("IsHome(%d, %d, %d, %d) = %v", c.nodes, c.copies, c.series, c.node, got)
		}
	}
}
