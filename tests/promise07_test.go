package tests

import (
	"slices"
	"testing"

	"loop.example/g00791/impl"
)

// Promise 7: each series has as many homes as it should, each once; with one
// more it has the same ones, and one more.

// eachHomes asks something of the homes of all series there are, among all
// nodes and with all copies there may be.
func eachHomes(t *testing.T, ask func(nodes int64, copies int64, series int64, homes []int64)) {
	t.Helper()
	for nodes := int64(1); nodes <= 4; nodes++ {
		for copies := int64(1); copies <= nodes; copies++ {
			for series := range int64(10) {
				homes := impl.HomesOf(nodes, copies, series)
				if homes.Code != impl.OK {
					t.Fatalf("HomesOf(%d, %d, %d) has the code %d", nodes, copies, series, homes.Code)
				}
				ask(nodes, copies, series, homes.List)
			}
		}
	}
}

func TestEachSeriesHasItsHomesEachOnce(t *testing.T) {
	eachHomes(t, func(nodes int64, copies int64, series int64, homes []int64) {
		if int64(len(homes)) != copies {
			t.Errorf("series %d has the homes %v of %d nodes; want %d", series, homes, nodes, copies)
		}
		met := map[int64]bool{}
		for _, node := range homes {
			if node < 0 || node >= nodes || met[node] {
				t.Errorf("series %d has the homes %v of %d nodes", series, homes, nodes)
			}
			met[node] = true
		}
	})
}

func TestWithOneMoreItHasTheSameHomes(t *testing.T) {
	eachHomes(t, func(nodes int64, copies int64, series int64, homes []int64) {
		more := impl.HomesOf(nodes, copies+1, series)
		if copies == nodes {
			// All have it already: there is no one more.
			if more.Code != impl.ErrRange || len(more.List) != 0 {
				t.Errorf("HomesOf(%d, %d, %d) = %v", nodes, copies+1, series, more)
			}
			return
		}
		if len(more.List) != len(homes)+1 || !slices.Equal(more.List[:copies], homes) {
			t.Errorf("series %d has the homes %v of %d nodes, and %v with one more", series, homes, nodes, more)
		}
	})
}

func TestWithAllCopiesAllAreHomes(t *testing.T) {
	for nodes := int64(1); nodes <= 4; nodes++ {
		for series := range int64(10) {
			homes := impl.HomesOf(nodes, nodes, series).List
			slices.Sort(homes)
			if !slices.Equal(homes, []int64{0, 1, 2, 3}[:nodes]) {
				t.Errorf("series %d has the homes %v of %d nodes", series, homes, nodes)
			}
		}
	}
}

// A node that comes along leaves those that were there in their order: it is a
// home itself, or all stays.
func TestOneMoreNodeTakesTheSeriesFromOneAtMost(t *testing.T) {
	met := map[string]int{}
	eachHomes(t, func(nodes int64, copies int64, series int64, homes []int64) {
		if nodes == 4 {
			return
		}
		more := impl.HomesOf(nodes+1, copies, series).List
		at := slices.Index(more, nodes)
		if at < 0 {
			met["stays"]++
			if !slices.Equal(more, homes) {
				t.Errorf("series %d has the homes %v of %d nodes, and %v of one more", series, homes, nodes, more)
			}
			return
		}
		met["comes"]++
		if old := slices.Delete(slices.Clone(more), at, at+1); !slices.Equal(old, homes[:copies-1]) {
			t.Errorf("series %d has the homes %v of %d nodes, and %v of one more", series, homes, nodes, more)
		}
	})
	if met["stays"] == 0 || met["comes"] == 0 {
		t.Error("not all is met:", met)
	}
}

func TestHomesAreTheNearestPlaces(t *testing.T) {
	eachHomes(t, func(nodes int64, copies int64, series int64, homes []int64) {
		places := impl.PlacesOf(nodes, series).Places
		if int64(len(places)) != nodes {
			t.Fatalf("PlacesOf(%d, %d) are %v", nodes, series, places)
		}
		for i, p := range places {
			if p.Far < 0 || p.Far > 63 {
				t.Errorf("%v is not on the ring", p)
			}
			// Where the series is, and as far on, there is the node.
			if spot := impl.SeriesSpot(series).Value + p.Far; spot != impl.NodeSpot(p.Node).Value && spot != impl.NodeSpot(p.Node).Value+64 {
				t.Errorf("%v does not lead from series %d to its node", p, series)
			}
			if i > 0 && places[i-1].Far >= p.Far {
				t.Errorf("PlacesOf(%d, %d) do not rise: %v", nodes, series, places)
			}
			if int64(i) < copies && homes[i] != p.Node {
				t.Errorf("%v are not the first %d of %v", homes, copies, places)
			}
		}
	})
}

func TestIsHomeTellsWhatHomesOfHas(t *testing.T) {
	eachHomes(t, func(nodes int64, copies int64, series int64, homes []int64) {
		count := int64(0)
		for node := int64(-5); node <= 9; node++ {
			is := impl.IsHome(nodes, copies, series, node)
			if is != slices.Contains(homes, node) {
				t.Errorf("IsHome(%d, %d, %d, %d) = %v; the homes are %v", nodes, copies, series, node, is, homes)
			}
			if is {
				count++
			}
		}
		if count != copies {
			t.Errorf("%d of %d nodes are homes of series %d; want %d", count, nodes, series, copies)
		}
	})
}
