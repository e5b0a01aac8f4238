package bitset_test

import (
	"math"
	"slices"
	"testing"

	"haruspex/api"
	"haruspex/bitset"
)

// outside are numbers that are never in a set, next to the bounds and far from them.
func outside() []int {
	return []int{-1, -2, -63, -64, -65, -5000, math.MinInt, math.MinInt + 1,
		5000, 5001, 5055, 5056, 5057, 5119, 5120, 1 << 32, 1<<32 + 7, math.MaxInt - 1, math.MaxInt}
}

// edges are numbers that may be in a set, on both sides of each bound that a way of keeping them may have.
func edges() []int {
	return []int{0, 1, 7, 8, 31, 32, 62, 63, 64, 65, 127, 128, 4095, 4096, 4927, 4928, 4991, 4992, 4998, 4999}
}

func same(t *testing.T, what string, s *bitset.Set, want ...int) {
	t.Helper()
	if got := s.All(); !slices.Equal(got, want) {
		t.Errorf("P1.1: %s: %v, want %v", what, got, want)
	}
	if got := s.Len(); got != len(want) {
		t.Errorf("P1.1: %s: Len %d, want %d", what, got, len(want))
	}
}

func hold(t *testing.T, what string, ok bool) {
	t.Helper()
	if !ok {
		t.Errorf("P1.1: %s does not hold", what)
	}
}

func TestZeroSetIsEmpty(t *testing.T) {
	var s bitset.Set
	same(t, "zero", &s)
	hold(t, "zero has no 0", !s.Has(0) && !s.Remove(0) && s.First(0) == -1)
	hold(t, "zero = Of()", s.Eq(bitset.Of()) && bitset.Of().Eq(&s))
	hold(t, "zero takes a number", s.Add(4999))
	same(t, "zero, told 4,999", &s, 4999)
	var into bitset.Set
	hold(t, "zero takes a set", into.Join(&s))
	same(t, "zero, told a set", &into, 4999)
}

func TestCopiedValueIsApart(t *testing.T) {
	s := bitset.Of(1, 4000)
	v := *s
	v.Add(2)
	v.Remove(4000)
	same(t, "origin", s, 1, 4000)
	same(t, "value", &v, 1, 2)
}

func TestOf(t *testing.T) {
	if bitset.Of() == nil {
		t.Fatal("P1.1: Of() is nil")
	}
	same(t, "Of()", bitset.Of())
	same(t, "Of(nil...)", bitset.Of([]int(nil)...))
	same(t, "Of of none that may be", bitset.Of(outside()...))
	same(t, "Of", bitset.Of(4999, 3, -1, 5000, 3, 0, 64, 63), 0, 3, 63, 64, 4999)
	same(t, "Of of edges", bitset.Of(edges()...), edges()...)
}

func TestOfLeavesItsList(t *testing.T) {
	room := []int{9, -4, 9, 2, 77, 78}
	l := room[:4]
	s := bitset.Of(l...)
	if !slices.Equal(room, []int{9, -4, 9, 2, 77, 78}) {
		t.Errorf("P0.3: the list became %v", room)
	}
	l[0] = 50
	same(t, "Of, its list written into", s, 2, 9)
}

func TestAddRemoveHasEdges(t *testing.T) {
	s := &bitset.Set{}
	for _, n := range edges() {
		hold(t, "not yet in", !s.Has(n) && !s.Remove(n))
		hold(t, "Add changes", s.Add(n))
		hold(t, "Add again does not", !s.Add(n) && s.Has(n))
	}
	same(t, "edges", s, edges()...)
	for _, n := range edges() {
		hold(t, "Remove changes", s.Remove(n))
		hold(t, "Remove again does not", !s.Remove(n) && !s.Has(n))
	}
	same(t, "edges taken out", s)
}

func TestOutsideIsNeverIn(t *testing.T) {
	all := make([]int, api.MaxSet)
	for n := range all {
		all[n] = n
	}
	full := bitset.Of(all...)
	for _, s := range []*bitset.Set{{}, bitset.Of(edges()...), full} {
		was := s.Copy()
		for _, n := range outside() {
			if s.Add(n) || s.Has(n) || s.Remove(n) {
				t.Errorf("P1.1: %d came in", n)
			}
		}
		hold(t, "outside changes nothing", s.Eq(was) && s.Len() == was.Len())
	}
	same(t, "full", full, all...)
}

func TestAllIsRisingWhateverTheOrder(t *testing.T) {
	s := &bitset.Set{}
	for _, n := range []int{4999, 65, 64, 1, 63, 0, 2500} {
		s.Add(n)
	}
	same(t, "All", s, 0, 1, 63, 64, 65, 2500, 4999)
}

func TestJoin(t *testing.T) {
	s, u := bitset.Of(1, 64), bitset.Of(64, 4999)
	hold(t, "Join changes", s.Join(u))
	same(t, "s", s, 1, 64, 4999)
	same(t, "t", u, 64, 4999)
	hold(t, "Join again does not", !s.Join(u))
	hold(t, "Join of itself does not", !s.Join(s))
	hold(t, "Join of an empty one does not", !s.Join(&bitset.Set{}))
	same(t, "s still", s, 1, 64, 4999)
	u.Add(7)
	same(t, "s, t written into", s, 1, 64, 4999)
	s.Remove(64)
	same(t, "t, s written into", u, 7, 64, 4999)
	e := &bitset.Set{}
	hold(t, "Join of two empty ones does not", !e.Join(bitset.Of()))
}

func TestLessAndMeet(t *testing.T) {
	s, u := bitset.Of(0, 63, 64, 4999), bitset.Of(63, 65, 4999)
	same(t, "s less t", s.Less(u), 0, 64)
	same(t, "t less s", u.Less(s), 65)
	same(t, "s meet t", s.Meet(u), 63, 4999)
	same(t, "t meet s", u.Meet(s), 63, 4999)
	same(t, "s less s", s.Less(s))
	same(t, "s meet s", s.Meet(s), 0, 63, 64, 4999)
	e := bitset.Of()
	same(t, "s less empty", s.Less(e), 0, 63, 64, 4999)
	same(t, "empty less s", e.Less(s))
	same(t, "s meet empty", s.Meet(e))
	same(t, "empty meet s", e.Meet(s))
	same(t, "s is not changed", s, 0, 63, 64, 4999)
	same(t, "t is not changed", u, 63, 65, 4999)
}

func TestEqAndIn(t *testing.T) {
	e, s, more, other := bitset.Of(), bitset.Of(1, 4999), bitset.Of(1, 2, 4999), bitset.Of(1, 4998)
	hold(t, "In", e.In(s) && e.In(e) && s.In(s) && s.In(more))
	hold(t, "not In", !s.In(e) && !more.In(s) && !s.In(other) && !other.In(s))
	hold(t, "Eq", e.Eq(bitset.Of()) && s.Eq(s) && s.Eq(bitset.Of(4999, 1)))
	hold(t, "not Eq", !e.Eq(s) && !s.Eq(e) && !s.Eq(more) && !more.Eq(s) && !s.Eq(other))
	more.Remove(2)
	hold(t, "Eq when the rest is taken out", s.Eq(more) && more.Eq(s) && more.In(s))
	s.Remove(4999)
	s.Remove(1)
	hold(t, "Eq of an emptied one", s.Eq(e) && e.Eq(s) && s.In(e))
}

func TestFirst(t *testing.T) {
	s := bitset.Of(5, 63, 64, 200, 4999)
	for _, c := range []struct{ from, want int }{
		{math.MinInt, 5}, {-5000, 5}, {-1, 5}, {0, 5}, {5, 5}, {6, 63}, {63, 63}, {64, 64}, {65, 200},
		{128, 200}, {200, 200}, {201, 4999}, {4998, 4999}, {4999, 4999}, {5000, -1}, {5056, -1}, {math.MaxInt, -1},
	} {
		if got := s.First(c.from); got != c.want {
			t.Errorf("P1.1: First(%d) = %d, want %d", c.from, got, c.want)
		}
	}
	low := bitset.Of(0)
	hold(t, "First of {0}", low.First(-1) == 0 && low.First(0) == 0 && low.First(1) == -1 && low.First(4999) == -1)
	for _, from := range append(outside(), edges()...) {
		hold(t, "First of an empty one is -1", bitset.Of().First(from) == -1)
	}
}

func TestNilAsReceiver(t *testing.T) {
	var none *bitset.Set
	s := bitset.Of(1, 4999)
	for _, n := range append(outside(), edges()...) {
		hold(t, "nothing goes into nil", !none.Add(n) && !none.Remove(n) && !none.Has(n) && none.First(n) == -1)
	}
	same(t, "nil", none)
	hold(t, "Join into nil", !none.Join(s) && !none.Join(none) && !none.Join(bitset.Of()))
	same(t, "nil still", none)
	hold(t, "nil Eq", none.Eq(none) && none.Eq(bitset.Of()) && !none.Eq(s))
	hold(t, "nil In", none.In(none) && none.In(bitset.Of()) && none.In(s))
	for _, made := range []*bitset.Set{none.Copy(), none.Less(s), none.Less(none), none.Meet(s), none.Meet(none)} {
		if made == nil {
			t.Fatal("P1.1: nil gives nil, not a new one")
		}
		same(t, "made of nil", made)
		hold(t, "made of nil takes a number", made.Add(3))
		same(t, "made of nil, told 3", made, 3)
	}
	same(t, "t is not changed", s, 1, 4999)
}

func TestNilAsArgument(t *testing.T) {
	var none *bitset.Set
	s, e := bitset.Of(1, 4999), bitset.Of()
	hold(t, "Join of nil", !s.Join(none) && !e.Join(none))
	hold(t, "Eq nil", !s.Eq(none) && e.Eq(none))
	hold(t, "In nil", !s.In(none) && e.In(none))
	less, meet := s.Less(none), s.Meet(none)
	if less == nil || meet == nil {
		t.Fatal("P1.1: nil as the argument gives nil")
	}
	same(t, "s less nil", less, 1, 4999)
	same(t, "s meet nil", meet)
	hold(t, "both take numbers", less.Add(2) && meet.Add(2) && less.Remove(1))
	same(t, "s is not changed", s, 1, 4999)
	same(t, "empty is not changed", e)
}

// TestAnswersAreNew writes into each answer and looks whether anything else has changed.
func TestAnswersAreNew(t *testing.T) {
	s, u := bitset.Of(1, 2, 3), bitset.Of(2, 3, 4)
	makers := []func() *bitset.Set{
		s.Copy,
		func() *bitset.Set { return s.Less(u) },
		func() *bitset.Set { return s.Meet(u) },
		func() *bitset.Set { return s.Meet(s) },
		func() *bitset.Set { return s.Less(bitset.Of()) },
		func() *bitset.Set { return bitset.Of(1, 2) },
		func() *bitset.Set { return bitset.Of() },
	}
	for k, build := range makers {
		a, b := build(), build()
		was := a.All()
		b.Join(bitset.Of(0, 70, 4999))
		b.Remove(2)
		b.Remove(1)
		if !slices.Equal(a.All(), was) || !slices.Equal(build().All(), was) {
			t.Errorf("P0.3, maker %d: %v became %v, %v", k, was, a.All(), build().All())
		}
		same(t, "s is not changed", s, 1, 2, 3)
		same(t, "t is not changed", u, 2, 3, 4)
	}
	c := s.Copy()
	s.Add(9)
	s.Remove(1)
	same(t, "a copy, its origin written into", c, 1, 2, 3)
}

func TestAllIsNew(t *testing.T) {
	s := bitset.Of(1, 64, 4999)
	a, b := s.All(), s.All()
	for k := range a[:cap(a)] {
		a[:cap(a)][k] = -7
	}
	_ = append(a, 8, 9)
	if !slices.Equal(b, []int{1, 64, 4999}) {
		t.Errorf("P0.3: another answer became %v", b)
	}
	same(t, "s, its list written into", s, 1, 64, 4999)
	s.Add(2)
	if !slices.Equal(b, []int{1, 64, 4999}) {
		t.Errorf("P0.3: Add changed an answer: %v", b)
	}
}

// TestAskingChangesNothing asks each question of sets of all sorts.
func TestAskingChangesNothing(t *testing.T) {
	sets := []*bitset.Set{nil, {}, bitset.Of(0), bitset.Of(4999), bitset.Of(edges()...), bitset.Of(3, 64, 700)}
	for _, s := range sets {
		for _, u := range sets {
			was, wasU := s.All(), u.All()
			for _, n := range append(outside(), edges()...) {
				s.Has(n)
				s.First(n)
			}
			s.Len()
			s.All()
			s.Less(u)
			s.Meet(u)
			s.Eq(u)
			s.In(u)
			s.Copy()
			if !slices.Equal(s.All(), was) || !slices.Equal(u.All(), wasU) {
				t.Errorf("P1.1: asking changed %v, %v to %v, %v", was, wasU, s.All(), u.All())
			}
			s.Copy().Join(u)
			if !slices.Equal(u.All(), wasU) {
				t.Errorf("P1.1: Join changed its argument %v to %v", wasU, u.All())
			}
		}
	}
}
