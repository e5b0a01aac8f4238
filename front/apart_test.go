package front_test

import (
	"fmt"
	"slices"
	"testing"

	"haruspex/bitset"
	"haruspex/front"
	"haruspex/graph"
)

// roomy gives a graph whose lists have spare room, full of marks, with that room.
func roomy() (graph.Graph, [][]int) {
	rooms := [][]int{{2, 1, 2, -7, -7}, {3, 0, -7, -7}, {4, 4, -7}, {1, 4, -7}, {-7, -7}, {5, 3, -7, -7}, {-7}}
	g := graph.Graph{N: 6, To: slices.Clone(rooms)[:6]}
	for n, room := range rooms[:6] {
		g.To[n] = room[:slices.Index(room, -7)]
	}
	return g, rooms
}

// askAll asks each function and tells all answers as one text.
func askAll(g graph.Graph, fr []*bitset.Set, from *bitset.Set) string {
	told := fmt.Sprint(front.Closure(fr, from).All())
	for a := range g.N {
		told += tell(front.Of(g, a))
	}
	return told
}

func TestWhatIsHandedInStays(t *testing.T) {
	g, rooms := roomy()
	to, wasRooms := fmt.Sprint(g.To[:cap(g.To)]), fmt.Sprint(rooms)
	room := sets([]int{1}, []int{2, 700}, []int{0, 3}, nil, []int{4}, []int{5})
	was, from := slices.Clone(room), room[1]
	told := askAll(g, room[:4], from)
	if fmt.Sprint(rooms) != wasRooms || fmt.Sprint(g.To[:cap(g.To)]) != to || g.N != 6 {
		t.Errorf("P0.3: the graph became %v, %v", g, rooms)
	}
	if !slices.Equal(room, was) || tell(room) != "[[1] [2 700] [0 3] [] [4] [5]]" {
		t.Errorf("P0.3: the list became %s", tell(room))
	}
	if again := askAll(g, room[:4], from); again != told {
		t.Errorf("P0.5: asked again: %s, first %s", again, told)
	}
	if got := tell(front.Of(g, 0)); got != "[[0] [0 1 4] [4] [1 4] [] []]" {
		t.Errorf("P7.1: Of: %s", got)
	}
}

func TestFrontiersAreNewMemory(t *testing.T) {
	g, rooms := roomy()
	was := fmt.Sprint(rooms)
	one, other := front.Of(g, 0), front.Of(g, 0)
	told := tell(other)
	for k, s := range one {
		rest := tell(one[k+1:])
		if !s.Add(4321) {
			t.Errorf("P7.1: nothing goes into the frontier of %d", k)
		}
		s.Remove(4)
		if tell(one[k+1:]) != rest {
			t.Errorf("P0.3: who writes into the frontier of %d changes another one", k)
		}
	}
	clear(one[:cap(one)])
	if tell(other) != told || tell(front.Of(g, 0)) != told || fmt.Sprint(rooms) != was {
		t.Errorf("P0.3: who writes into what Of answers changes %s, %v", tell(other), rooms)
	}
}

func TestClosuresAreNewMemory(t *testing.T) {
	loop := bitset.Of(0)
	for k, c := range []struct {
		fr   []*bitset.Set
		from *bitset.Set
	}{
		{sets([]int{1}, []int{2}, []int{0}), bitset.Of(1)},
		{[]*bitset.Set{loop, loop}, loop},
		{sets([]int{7}, nil), bitset.Of(0)},
		{sets([]int{7}, nil), nil},
		{nil, bitset.Of(0)},
		{nil, nil},
	} {
		one, other := front.Closure(c.fr, c.from), front.Closure(c.fr, c.from)
		wasFr, wasFrom, was := tell(c.fr), c.from.All(), other.All()
		if !one.Add(4321) {
			t.Errorf("P7.1, %d: nothing goes into the set", k)
		}
		one.Remove(0)
		if tell(c.fr) != wasFr || !slices.Equal(c.from.All(), wasFrom) || !slices.Equal(other.All(), was) {
			t.Errorf("P0.3, %d: who writes into what Closure answers changes %s, %v, %v", k, tell(c.fr), c.from.All(), other.All())
		}
		if !slices.Equal(front.Closure(c.fr, c.from).All(), was) {
			t.Errorf("P0.5, %d: asked again: not %v", k, was)
		}
	}
}
