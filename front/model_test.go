package front_test

import (
	"slices"
	"testing"

	"haruspex/bitset"
	"haruspex/front"
	"haruspex/graph"
)

// dice gives the same numbers at each run.
type dice uint64

func (d *dice) roll(n int) int {
	*d = *d*6364136223846793005 + 1442695040888963407
	return int(uint64(*d)>>33) % n
}

// graph gives one of n nodes, with few edges or many, in any order.
func (d *dice) graph(n int) graph.Graph {
	g := graph.Graph{N: n, To: make([][]int, n)}
	for range d.roll(3*n + 1) {
		a := d.roll(n)
		g.To[a] = append(g.To[a], d.roll(n))
	}
	return g
}

// without tells of each node whether a way from root leads to it that the node cut is not on.
func without(g graph.Graph, root, cut int) []bool {
	seen := make([]bool, g.N)
	var walk func(n int)
	walk = func(n int) {
		if n == cut || seen[n] {
			return
		}
		seen[n] = true
		for _, m := range g.To[n] {
			walk(m)
		}
	}
	walk(root)
	return seen
}

// modelOf gives of each node, rising, what the promise's words say: it asks of each edge whether the node is on each way to its ends.
func modelOf(g graph.Graph, root int) [][]int {
	lists := make([][]int, g.N)
	reached := without(g, root, -1)
	for a := range lists {
		other := without(g, root, a)
		above := func(b int) bool { return reached[b] && !other[b] }
		in := make([]bool, g.N)
		for x, l := range g.To {
			for _, b := range l {
				in[b] = in[b] || above(x) && !(above(b) && a != b)
			}
		}
		for b := range g.N {
			if in[b] {
				lists[a] = append(lists[a], b)
			}
		}
	}
	return lists
}

func hold(t *testing.T, g graph.Graph, root int) {
	t.Helper()
	fr, want := front.Of(g, root), modelOf(g, root)
	if len(fr) != g.N {
		t.Fatalf("P7.1: Of(%v, %d): %s", g, root, tell(fr))
	}
	for a, l := range want {
		if !slices.Equal(fr[a].All(), l) {
			t.Fatalf("P7.1: Of(%v, %d): %s, the model %v", g, root, tell(fr), want)
		}
	}
}

// matrix gives the graph of n nodes whose edges are the bits of edges.
func matrix(n, edges int) graph.Graph {
	g := graph.Graph{N: n, To: make([][]int, n)}
	for k := range n * n {
		if edges>>k&1 == 1 {
			g.To[k/n] = append(g.To[k/n], k%n)
		}
	}
	return g
}

func TestAllSmallGraphs(t *testing.T) {
	for n := 1; n <= 4; n++ {
		for edges := range 1 << (n * n) {
			for root := range n {
				hold(t, matrix(n, edges), root)
			}
		}
	}
}

func TestOfAgainstModel(t *testing.T) {
	d := dice(7)
	for range 6000 {
		n := 1 + d.roll(12)
		hold(t, d.graph(n), d.roll(n))
	}
	for range 60 {
		n := 20 + d.roll(60)
		hold(t, d.graph(n), d.roll(n))
	}
}

// closed puts into a set, round by round, what is missing from it, until nothing is.
func closed(fr []*bitset.Set, from *bitset.Set) *bitset.Set {
	all := &bitset.Set{}
	for changed := true; changed; {
		changed = false
		for n, s := range fr {
			if from.Has(n) || all.Has(n) {
				changed = all.Join(s) || changed
			}
		}
	}
	return all
}

func holdClosure(t *testing.T, fr []*bitset.Set, from *bitset.Set) {
	t.Helper()
	if got, want := front.Closure(fr, from), closed(fr, from); !got.Eq(want) {
		t.Fatalf("P7.1: Closure(%s, %v): %v, the model %v", tell(fr), from.All(), got.All(), want.All())
	}
}

// bitsOf gives the set of the four lowest bits.
func bitsOf(n int) *bitset.Set {
	s := &bitset.Set{}
	for k := range 4 {
		if n>>k&1 == 1 {
			s.Add(k)
		}
	}
	return s
}

// Three frontiers, of four numbers: the last one has none.
func TestAllSmallClosures(t *testing.T) {
	for all := range 1 << 16 {
		holdClosure(t, []*bitset.Set{bitsOf(all), bitsOf(all >> 4), bitsOf(all >> 8)}, bitsOf(all>>12))
	}
}

func TestClosureAgainstModel(t *testing.T) {
	d := dice(77)
	for range 2000 {
		fr := make([]*bitset.Set, d.roll(30))
		for n := range fr {
			if d.roll(5) == 0 {
				continue
			}
			fr[n] = &bitset.Set{}
			for range d.roll(3) {
				fr[n].Add(d.roll(32))
			}
		}
		holdClosure(t, fr, bitset.Of(d.roll(32), d.roll(32)))
	}
	for range 300 {
		n := 1 + d.roll(40)
		fr := front.Of(d.graph(n), d.roll(n))
		holdClosure(t, fr, bitset.Of(d.roll(n), d.roll(n+3)))
	}
}
