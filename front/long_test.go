package front_test

import (
	"slices"
	"testing"

	"haruspex/bitset"
	"haruspex/front"
	"haruspex/graph"
)

// upTo gives the numbers from 0 to n - 1.
func upTo(n int) []int {
	l := make([]int, n)
	for k := range l {
		l[k] = k
	}
	return l
}

// chain gives a graph of n nodes with an edge from each to the next.
func chain(n int) graph.Graph {
	g := graph.Graph{N: n, To: make([][]int, n)}
	for a := range n - 1 {
		g.To[a] = []int{a + 1}
	}
	return g
}

func TestRingOf600(t *testing.T) {
	g := chain(600)
	for a, s := range front.Of(g, 0) {
		if s.Len() != 0 {
			t.Fatalf("P7.1: a chain: of %d %v", a, s.All())
		}
	}
	g.To[599] = []int{0}
	for a, s := range front.Of(g, 300) {
		if !slices.Equal(s.All(), []int{300}) {
			t.Fatalf("P7.1: a ring from 300: of %d %v", a, s.All())
		}
	}
}

// From each node of a chain edges lead back to all above it and to itself: each frontier has all from 0 to its own node.
func TestAllEdgesBackOf600(t *testing.T) {
	g, all := chain(600), upTo(600)
	for a := range 600 {
		g.To[a] = append(g.To[a], all[:a+1]...)
	}
	fr := front.Of(g, 0)
	for a, s := range fr {
		if !slices.Equal(s.All(), all[:a+1]) {
			t.Fatalf("P7.1: all edges back: of %d %v", a, s.All())
		}
	}
	if got := front.Closure(fr, bitset.Of(17)).All(); !slices.Equal(got, all[:18]) {
		t.Errorf("P7.1: Closure of all edges back: %v", got)
	}
}

func TestAllEdgesOf600(t *testing.T) {
	g, all := graph.Graph{N: 600, To: make([][]int, 600)}, upTo(600)
	for a := range 600 {
		g.To[a] = all
	}
	fr := front.Of(g, 7)
	for a, s := range fr {
		want := all
		if a == 7 {
			want = []int{7}
		}
		if !slices.Equal(s.All(), want) {
			t.Fatalf("P7.1: all edges: of %d %v", a, s.All())
		}
	}
	if got := front.Closure(fr, bitset.Of(7)).All(); !slices.Equal(got, []int{7}) {
		t.Errorf("P7.1: Closure of all edges: %v", got)
	}
}

// A long way up, by each of many edges that are all the same.
func TestLongEdgeLists(t *testing.T) {
	const often = 1 << 20
	g := chain(600)
	g.To[599] = slices.Repeat([]int{0, 1}, often)
	g.To[0] = slices.Repeat([]int{1}, often)
	for a, s := range front.Of(g, 0) {
		want := []int{0, 1}
		if a == 0 {
			want = []int{0}
		}
		if !slices.Equal(s.All(), want) {
			t.Fatalf("P7.1: edges that stand often: of %d %v", a, s.All())
		}
	}
}

func TestClosureOfLongLists(t *testing.T) {
	const n = 1 << 20
	rising, falling, full := make([]*bitset.Set, n), make([]*bitset.Set, n), make([]*bitset.Set, n)
	all := upTo(5000)
	every := bitset.Of(all...)
	for a := range 6000 {
		rising[a], falling[a] = bitset.Of(a+1), bitset.Of(a-1)
	}
	for a := range full {
		full[a] = every
	}
	for _, c := range []struct {
		name string
		fr   []*bitset.Set
		from *bitset.Set
		want []int
	}{
		{"rising", rising, bitset.Of(0), all[1:]},
		{"rising, from all", rising, every, all[1:]},
		{"rising, from the last", rising, bitset.Of(4999), nil},
		{"rising, cut off", rising[:4000], bitset.Of(0), all[1:4001]},
		{"falling", falling, bitset.Of(4999), all[:4999]},
		{"all of all", full, bitset.Of(4321), all},
		{"all of all, from all", full, every, all},
		{"all of all, from none", full, nil, nil},
		{"no sets", make([]*bitset.Set, n), every, nil},
	} {
		if got := front.Closure(c.fr, c.from).All(); !slices.Equal(got, c.want) {
			t.Errorf("P7.1: Closure: %s: %d numbers, want %d", c.name, len(got), len(c.want))
		}
	}
	if every.Len() != 5000 {
		t.Errorf("P0.3: a set that was handed in has %d numbers", every.Len())
	}
}
