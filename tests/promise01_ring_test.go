package tests

import (
	"go/ast"
	"go/parser"
	"go/token"
	"os"
	"os/exec"
	"path/filepath"
	"reflect"
	"slices"
	"sync"
	"testing"

	"loop.example/g00791/impl"
)

// Promise 1, of the functions of chapter 6.

// ringNumbers are the numbers near all bounds, and some far from them.
func ringNumbers() []int64 {
	list := numbersPast(0, 9)
	for n := int64(-3); n <= 12; n++ {
		list = append(list, n)
	}
	return list
}

// ringOfAll asks all functions of the ring with these numbers; the answers are
// held against one another.
func ringOfAll(nodes int64, copies int64, series int64, node int64) []any {
	return []any{
		impl.NodeSpot(node),
		impl.SeriesSpot(series),
		impl.PlacesOf(nodes, series),
		impl.HomesOf(nodes, copies, series),
		impl.IsHome(nodes, copies, series, node),
	}
}

func TestRingAnswersAtEveryArgument(t *testing.T) {
	for _, n := range oddNumbers() {
		node, series := int64(-1), int64(-1)
		if n >= 0 && n <= 3 {
			node = plainNodeSpots()[n]
		}
		if n >= 0 && n <= 9 {
			series = plainSeriesSpots()[n]
		}
		checkSpot(t, "odd node", impl.NodeSpot(n), node)
		checkSpot(t, "odd series", impl.SeriesSpot(n), series)
		for _, m := range oddNumbers() {
			checkPlaces(t, n, m, plainPlaces(n, m))
		}
	}
	numbers := ringNumbers()
	for _, nodes := range numbers {
		for _, copies := range numbers {
			for _, series := range numbers {
				homes := plainHomes(nodes, copies, series)
				checkHomes(t, nodes, copies, series, homes)
				for _, node := range numbers {
					if impl.IsHome(nodes, copies, series, node) != slices.Contains(homes, node) {
						t.Fatalf("IsHome(%d, %d, %d, %d); the homes are %v", nodes, copies, series, node, homes)
					}
				}
			}
		}
	}
}

func TestRingHangsOnArgumentsAlone(t *testing.T) {
	numbers := oddNumbers()[:40]
	ask := func(i int) []any {
		n := len(numbers)
		return ringOfAll(numbers[i%n], numbers[i*7%n], numbers[i*11%n], numbers[i*13%n])
	}
	var first [][]any
	for i := range 2000 {
		first = append(first, ask(i))
	}
	for i := len(first) - 1; i >= 0; i-- {
		if again := ask(i); !reflect.DeepEqual(first[i], again) {
			t.Fatalf("asked twice: %v and %v", first[i], again)
		}
	}
}

// oneByOne asks each function of the ring once.
func oneByOne(t *testing.T) map[string]func() {
	return map[string]func(){
		"NodeSpot":   func() { checkSpot(t, "first", impl.NodeSpot(3), 58) },
		"SeriesSpot": func() { checkSpot(t, "first", impl.SeriesSpot(9), 10) },
		"PlacesOf":   func() { checkPlaces(t, 2, 7, []impl.Place{{Far: 32, Node: 1}, {Far: 59, Node: 0}}) },
		"HomesOf":    func() { checkHomes(t, 3, 2, 0, []int64{0, 2}) },
		"IsHome": func() {
			if !impl.IsHome(3, 1, 7, 2) || impl.IsHome(3, 1, 7, 0) {
				t.Error("first: IsHome")
			}
		},
		// A call with a code comes first, and one without a code behind it.
		"no spot": func() {
			checkSpot(t, "first", impl.NodeSpot(4), -1)
			checkSpot(t, "second", impl.NodeSpot(1), 48)
		},
	}
}

// What is made once must be there for whoever asks first: each one is asked
// first in a process of its own.
func TestRingAnswersWhoeverIsAskedFirst(t *testing.T) {
	const name = "RING_ASKED_FIRST"
	if ask, child := oneByOne(t)[os.Getenv(name)]; child {
		ask()
		return
	}
	self, err := os.Executable()
	if err != nil {
		t.Fatal(err)
	}
	for asked := range oneByOne(t) {
		run := exec.Command(self, "-test.run=^TestRingAnswersWhoeverIsAskedFirst$")
		run.Env = append(os.Environ(), name+"="+asked)
		if out, err := run.CombinedOutput(); err != nil {
			t.Errorf("%s is asked first: %v\n%s", asked, err, out)
		}
	}
}

// keptSpots are the names of the spots that are kept, as often as they stand in
// a piece of the program.
func keptSpots(piece ast.Node) []string {
	var names []string
	ast.Inspect(piece, func(n ast.Node) bool {
		if name, ok := n.(*ast.Ident); ok && (name.Name == "nodeSpots" || name.Name == "seriesSpots") {
			names = append(names, name.Name)
		}
		return true
	})
	return names
}

// droppedSpots are those of them that are read, and nothing comes of it.
func droppedSpots(piece ast.Node) []string {
	var names []string
	ast.Inspect(piece, func(n ast.Node) bool {
		if set, ok := n.(*ast.AssignStmt); ok && set.Tok == token.ASSIGN && len(set.Lhs) == 1 {
			if to, ok := set.Lhs[0].(*ast.Ident); ok && to.Name == "_" {
				names = append(names, keptSpots(set.Rhs[0])...)
			}
		}
		return true
	})
	return names
}

// functionsOf are all functions that the program's files declare.
func functionsOf(t *testing.T) []*ast.FuncDecl {
	t.Helper()
	files, err := filepath.Glob(filepath.Join("..", "impl", "*.go"))
	if err != nil {
		t.Fatal(err)
	}
	var list []*ast.FuncDecl
	for _, name := range files {
		file, err := parser.ParseFile(token.NewFileSet(), name, nil, 0)
		if err != nil {
			t.Fatal(err)
		}
		for _, d := range file.Decls {
			if f, ok := d.(*ast.FuncDecl); ok {
				list = append(list, f)
			}
		}
	}
	return list
}

// No call can show where a spot comes from that is always the same, but the
// program's text can.
func TestNoAnswerIsComputedFromSpotsThatAreKept(t *testing.T) {
	read := map[string]bool{}
	for _, f := range functionsOf(t) {
		name := f.Name.Name
		if name == "makeSpots" {
			continue
		}
		kept, dropped := keptSpots(f), droppedSpots(f)
		if len(kept) != len(dropped) {
			t.Errorf("%s has something come of spots that are kept: %v; dropped are %v", name, kept, dropped)
		}
		for _, spots := range dropped {
			read[spots] = read[spots] || f.Name.IsExported()
		}
	}
	if !read["nodeSpots"] || !read["seriesSpots"] {
		t.Error("exported functions read of the spots that are kept only", read)
	}
}

func TestRingAnswersManyAtOnce(t *testing.T) {
	var all sync.WaitGroup
	for range 8 {
		all.Go(func() {
			for series := range int64(10) {
				checkPlaces(t, 4, series, plainPlaces(4, series))
				checkHomes(t, 4, 3, series, plainOrders()[series][:3])
			}
		})
	}
	all.Wait()
}

func TestPlacesAndHomesAreNewMemory(t *testing.T) {
	for nodes := int64(1); nodes <= 4; nodes++ {
		for series := range int64(10) {
			want := plainPlaces(nodes, series)
			got, kept := impl.PlacesOf(nodes, series).Places, impl.PlacesOf(nodes, series).Places
			got = got[:cap(got)]
			for i := range got {
				got[i] = impl.Place{Far: -1, Node: -1}
			}
			// Held ahead of the next call, which could put the same places there again.
			if !slices.Equal(kept, want) {
				t.Fatalf("PlacesOf(%d, %d) answers twice with one memory", nodes, series)
			}
			checkPlaces(t, nodes, series, want)
			for copies := int64(1); copies <= nodes; copies++ {
				checkHomesAreNew(t, nodes, copies, series)
			}
		}
	}
}

func checkHomesAreNew(t *testing.T, nodes int64, copies int64, series int64) {
	t.Helper()
	want := plainHomes(nodes, copies, series)
	got, kept := impl.HomesOf(nodes, copies, series).List, impl.HomesOf(nodes, copies, series).List
	got = got[:cap(got)]
	for i := range got {
		got[i] = -1
	}
	if !slices.Equal(kept, want) {
		t.Fatalf("HomesOf(%d, %d, %d) answers twice with one memory", nodes, copies, series)
	}
	checkHomes(t, nodes, copies, series, want)
	for node := range nodes {
		if impl.IsHome(nodes, copies, series, node) != slices.Contains(want, node) {
			t.Fatalf("IsHome(%d, %d, %d, %d) hangs on what was told", nodes, copies, series, node)
		}
	}
}
