package graph_test

import (
	"fmt"
	"slices"
	"testing"

	"haruspex/bitset"
	"haruspex/graph"
)

// roomy gives a graph whose lists have spare room, full of marks, with that room.
func roomy() (graph.Graph, [][]int) {
	rooms := [][]int{{2, 1, 2, -7, -7}, {3, 0, -7, -7}, {4, 4, -7}, {1, -7}, {-7, -7}, {5, 3, -7, -7}, nil}
	g := graph.Graph{N: 6, To: slices.Clone(rooms)[:6]}
	for n, room := range rooms[:6] {
		g.To[n] = room[:slices.Index(room, -7)]
	}
	return g, rooms
}

// askAll asks each function of g and tells all answers as one text.
func askAll(g graph.Graph, from []int) string {
	told := fmt.Sprint(graph.May(g), graph.Turn(g), graph.Reach(g, from).All(), graph.Parts(g), graph.Loops(g).All())
	for a := range g.N {
		told += fmt.Sprint(graph.Order(g, a), graph.Path(g, 0, a), graph.Path(g, 5, a))
	}
	return told
}

func TestWhatIsHandedInStays(t *testing.T) {
	g, rooms := roomy()
	to := slices.Clone(g.To[:cap(g.To)])
	wasRooms, fromRoom := fmt.Sprint(rooms), []int{5, 1, 99, 5, -7, -7}
	told := askAll(g, fromRoom[:4])
	if fmt.Sprint(rooms) != wasRooms || !slices.Equal(fromRoom, []int{5, 1, 99, 5, -7, -7}) {
		t.Errorf("P0.3: what was handed in became %v, %v", rooms, fromRoom)
	}
	if !equal(g.To[:cap(g.To)], to) || g.N != 6 {
		t.Errorf("P0.3: the graph became %v", g)
	}
	if again := askAll(g, fromRoom[:4]); again != told {
		t.Errorf("P0.5: asked again: %s, first %s", again, told)
	}
}

// lists gives all lists that the functions answer of g.
func lists(g graph.Graph) [][]int {
	l := slices.Concat(graph.Turn(g).To, graph.Parts(g))
	for a := range g.N {
		l = append(l, graph.Order(g, a), graph.Path(g, 0, a), graph.Path(g, a, a))
	}
	return l
}

func TestAnswersAreNewMemory(t *testing.T) {
	g, rooms := roomy()
	was, told := fmt.Sprint(rooms), fmt.Sprint(lists(g))
	first, second := lists(g), lists(g)
	for k, l := range first {
		rest := fmt.Sprint(first[k+1:])
		room := l[:cap(l)]
		for i := range room {
			room[i] = -9
		}
		if fmt.Sprint(first[k+1:]) != rest {
			t.Errorf("P0.3: who writes into answer %d changes another one", k)
		}
	}
	if fmt.Sprint(second) != told || fmt.Sprint(lists(g)) != told {
		t.Errorf("P0.3: other answers became %v", second)
	}
	if fmt.Sprint(rooms) != was {
		t.Errorf("P0.3: what was handed in became %v", rooms)
	}
}

func TestListsOfListsAreNewMemory(t *testing.T) {
	g, _ := roomy()
	turned, parts := graph.Turn(g), graph.Parts(g)
	told := fmt.Sprint(turned, parts)
	one, other := graph.Turn(g).To, graph.Parts(g)
	clear(one[:cap(one)])
	clear(other[:cap(other)])
	if fmt.Sprint(turned, parts) != told || fmt.Sprint(graph.Turn(g), graph.Parts(g)) != told {
		t.Errorf("P0.3: other answers became %v, %v", turned, parts)
	}
}

func TestSetsAreNew(t *testing.T) {
	g, _ := roomy()
	bad := graph.Graph{N: -1}
	for k, ask := range []func() *bitset.Set{
		func() *bitset.Set { return graph.Reach(g, []int{1}) },
		func() *bitset.Set { return graph.Reach(g, nil) },
		func() *bitset.Set { return graph.Loops(g) },
		func() *bitset.Set { return graph.Reach(bad, []int{0}) },
		func() *bitset.Set { return graph.Loops(bad) },
	} {
		one, other := ask(), ask()
		was := other.All()
		if !one.Add(4321) {
			t.Errorf("P5.1, %d: nothing goes into the set", k)
		}
		one.Remove(1)
		if !slices.Equal(other.All(), was) || !slices.Equal(ask().All(), was) {
			t.Errorf("P0.3, %d: other sets became %v", k, other.All())
		}
	}
}
