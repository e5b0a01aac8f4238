package value_test

import (
	"slices"
	"testing"

	"haruspex/api"
	"haruspex/value"
)

func TestRecordsAreNeitherChangedNorKept(t *testing.T) {
	room := append(mixed(), api.Type{Kind: api.TFun, N: -7}, api.Type{N: -7})
	was := slices.Clone(room)
	h := value.New()
	for k := range 4 {
		// The record has spare room; none of it is a field.
		if o := h.Alloc(k, room[:k+1]); o != int64(k+1) {
			t.Fatalf("P13.1: Alloc %d: %d", k, o)
		}
	}
	for o := range int64(4) {
		refuses(t, h, o+1, int(o+1), api.ANil)
		h.Set(o+1, int(o), api.Value{Kind: api.VFun, N: 8, Taint: true})
		h.Set(o+1, int(o), zeroNil)
	}
	h.Free(2)
	if !slices.Equal(room, was) {
		t.Errorf("P0.3: the record became %v, it was %v", room, was)
	}
	clear(room)
	if !holds(h, 4, zeroNil, zeroInt, zeroNil, zeroNil) {
		t.Error("P0.3: who writes into the record changes the object")
	}
	for k := range room {
		room[k].Kind = api.TPtr
	}
	if !holds(h, 4, zeroNil, zeroInt, zeroNil, zeroNil) || !holds(h, 3, zeroNil, zeroInt, zeroNil) {
		t.Error("P0.3: who writes into the record changes the object")
	}
}

func TestNilRecords(t *testing.T) {
	h := value.New()
	for k, rec := range [][]api.Type{nil, {}, mixed()[:0]} {
		o := h.Alloc(k, rec)
		refuses(t, h, o, 0, api.ANil)
		refuses(t, h, o, -1, api.ANil)
		if o != int64(k+1) || h.Site(o) != k || h.Freed(o) || h.Free(o) != 0 || h.Free(o) != api.AFreed {
			t.Errorf("P0.4: the record %d without fields: %d", k, o)
		}
	}
}

// Objects of one record hold their own values.
func TestObjectsAreApart(t *testing.T) {
	h, rec := value.New(), mixed()
	for k := range 40 {
		h.Alloc(k, rec)
	}
	for k := range int64(40) {
		for field := range 4 {
			h.Set(k+1, field, api.Value{Kind: api.VPtr, N: 4*k + int64(field)})
		}
	}
	for k := range int64(40) {
		want := []api.Value{{Kind: api.VPtr, N: 4 * k}, {Kind: api.VPtr, N: 4*k + 1}, {Kind: api.VPtr, N: 4*k + 2}, {Kind: api.VPtr, N: 4*k + 3}}
		if !holds(h, k+1, want...) {
			t.Errorf("P13.1: the object %d shares fields with others", k+1)
		}
	}
}

func TestHeapsAreApart(t *testing.T) {
	a, b, rec := value.New(), value.New(), mixed()
	if a.Alloc(1, rec) != 1 || a.Alloc(2, rec) != 2 || b.Len() != 0 || b.Alloc(3, rec) != 1 {
		t.Error("P0.5: one heap's numbers hang on the other's")
	}
	a.Set(1, 1, api.Value{N: 5})
	a.Free(2)
	b.Alloc(4, nil)
	if !holds(b, 1, zeroNil, zeroInt, zeroNil, zeroNil) || b.Freed(2) || b.Site(2) != 4 || a.Site(1) != 1 || !a.Freed(2) {
		t.Error("P0.5: one heap hangs on the other")
	}
	for a.Alloc(0, nil) > 0 {
	}
	if b.Len() != 2 || b.Alloc(5, nil) != 3 || a.Len() != 400 {
		t.Error("P0.5: a full heap fills the other")
	}
}

// A record may have any count of fields.
func TestLongRecords(t *testing.T) {
	const n = 1_000_000
	rec := make([]api.Type, n)
	for k := range rec {
		rec[k].Kind = k % 4
	}
	h := value.New()
	if h.Alloc(1, rec) != 1 || h.Alloc(2, rec) != 2 {
		t.Fatal("P0.1: Alloc of a long record")
	}
	for k := range n {
		if why := h.Set(1, k, api.Value{N: int64(k), Taint: true}); why != 0 {
			t.Fatalf("P13.1: Set of the field %d: %d", k, why)
		}
	}
	for k := range n {
		one, _ := h.Get(1, k)
		if other, why := h.Get(2, k); one != (api.Value{N: int64(k), Taint: true}) || other != value.Zero(rec[k]) || why != 0 {
			t.Fatalf("P13.1: the field %d: %v and %v, %d", k, one, other, why)
		}
	}
	refuses(t, h, 1, n, api.ANil)
	if h.Free(1) != 0 || h.Freed(2) {
		t.Error("P13.1: Free of a long one")
	}
	refuses(t, h, 1, n-1, api.AFreed)
}
