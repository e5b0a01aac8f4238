package dom_test

import (
	"fmt"
	"slices"
	"testing"

	"haruspex/dom"
	"haruspex/graph"
)

// roomy gives a graph whose lists have spare room, full of marks, with that room.
func roomy() (graph.Graph, [][]int) {
	rooms := [][]int{{2, 1, 2, -7, -7}, {3, 0, -7, -7}, {4, 4, -7}, {1, -7}, {-7, -7}, {5, 3, -7, -7}, {-7}}
	g := graph.Graph{N: 6, To: slices.Clone(rooms)[:6]}
	for n, room := range rooms[:6] {
		g.To[n] = room[:slices.Index(room, -7)]
	}
	return g, rooms
}

// askAll asks each function and tells all answers as one text.
func askAll(g graph.Graph, up []int) string {
	told := fmt.Sprint(dom.Depth(up))
	for a := range g.N {
		told += fmt.Sprint(dom.Up(g, a))
		for b := range g.N {
			told += fmt.Sprint(dom.Above(up, a, b))
		}
	}
	return told
}

func TestWhatIsHandedInStays(t *testing.T) {
	g, rooms := roomy()
	to, wasRooms := fmt.Sprint(g.To[:cap(g.To)]), fmt.Sprint(rooms)
	upRoom := []int{0, 0, 0, 1, 2, -1, -7, -7}
	told := askAll(g, upRoom[:6])
	if fmt.Sprint(rooms) != wasRooms || fmt.Sprint(g.To[:cap(g.To)]) != to || g.N != 6 {
		t.Errorf("P0.3: the graph became %v, %v", g, rooms)
	}
	if !slices.Equal(upRoom, []int{0, 0, 0, 1, 2, -1, -7, -7}) {
		t.Errorf("P0.3: the list became %v", upRoom)
	}
	if again := askAll(g, upRoom[:6]); again != told {
		t.Errorf("P0.5: asked again: %s, first %s", again, told)
	}
	if got := fmt.Sprint(dom.Up(g, 0)); got != "[0 0 0 1 2 -1]" {
		t.Errorf("P6.1: Up: %s", got)
	}
}

func TestAnswersAreNewMemory(t *testing.T) {
	g, rooms := roomy()
	was := fmt.Sprint(rooms)
	one, other := dom.Up(g, 0), dom.Up(g, 0)
	low, lower := dom.Depth(one), dom.Depth(one)
	told, toldDepth := fmt.Sprint(other), fmt.Sprint(lower)
	for _, l := range [][]int{low, one} {
		room := l[:cap(l)]
		for k := range room {
			room[k] = -9
		}
	}
	if fmt.Sprint(other) != told || fmt.Sprint(dom.Up(g, 0)) != told || fmt.Sprint(rooms) != was {
		t.Errorf("P0.3: who writes into what Up answers changes %v, %v", other, rooms)
	}
	if fmt.Sprint(lower) != toldDepth || fmt.Sprint(dom.Depth(other)) != toldDepth {
		t.Errorf("P0.3: who writes into what Depth answers changes %v", lower)
	}
}
