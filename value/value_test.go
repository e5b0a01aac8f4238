package value_test

import (
	"math"
	"testing"

	"haruspex/api"
	"haruspex/value"
)

var (
	zeroInt = api.Value{Kind: api.VInt}
	zeroNil = api.Value{Kind: api.VNil}
)

// huge gives numbers that are none of an object or field; some look like one if they are cut to fewer bits.
func huge() []int64 {
	return []int64{-1, -2, math.MinInt64, math.MinInt64 + 1, math.MinInt64 + 2, math.MaxInt64, math.MaxInt64 - 1,
		401, 1 << 8, 1<<8 + 1, 1 << 16, 1<<16 + 1, 1 << 32, 1<<32 + 1, 1<<62 + 1, -1 << 32, -1<<32 + 1, math.MaxInt32, math.MinInt32}
}

// odd gives values of all kinds and of none.
func odd() []api.Value {
	var l []api.Value
	for _, kind := range []int{api.VInt, api.VNil, api.VPtr, api.VFun, 4, -1, 1 << 32, math.MinInt, math.MaxInt} {
		for _, n := range []int64{0, 1, -1, 77, math.MinInt64, math.MaxInt64} {
			l = append(l, api.Value{Kind: kind, N: n}, api.Value{Kind: kind, N: n, Taint: true})
		}
	}
	return l
}

// mixed gives a record with fields of each kind.
func mixed() []api.Type {
	return []api.Type{{Kind: api.TPtr, N: 2}, {Kind: api.TInt}, {Kind: api.TFun, N: 1}, {Kind: api.TIface, N: 3}}
}

// holds tells whether the object o holds just want.
func holds(h *value.Heap, o int64, want ...api.Value) bool {
	for k, v := range want {
		if got, why := h.Get(o, k); got != v || why != 0 {
			return false
		}
	}
	_, why := h.Get(o, len(want))
	return why == api.ANil
}

// refuses asks all that may be asked of an object's field: each must say why and nothing else.
func refuses(t *testing.T, h *value.Heap, o int64, field, why int) {
	t.Helper()
	if got, w := h.Get(o, field); w != why || got != (api.Value{}) {
		t.Errorf("P13.1, P0.2: Get(%d, %d): %v, %d, not %d", o, field, got, w, why)
	}
	if w := h.Set(o, field, api.Value{Kind: api.VPtr, N: 5, Taint: true}); w != why {
		t.Errorf("P13.1: Set(%d, %d): %d, not %d", o, field, w, why)
	}
}

func TestZero(t *testing.T) {
	for _, n := range []int{0, 1, -1, math.MinInt, math.MaxInt} {
		if got := value.Zero(api.Type{Kind: api.TInt, N: n}); got != zeroInt {
			t.Errorf("P13.1: Zero of a TInt with %d: %v", n, got)
		}
		for _, kind := range []int{api.TPtr, api.TFun, api.TIface, 4, -1, 256, 1 << 32, math.MinInt, math.MaxInt} {
			if got := value.Zero(api.Type{Kind: kind, N: n}); got != zeroNil {
				t.Errorf("P13.1: Zero of the kind %d, %d: %v", kind, n, got)
			}
		}
	}
}

func TestNewIsEmpty(t *testing.T) {
	h := value.New()
	if h == nil || h.Len() != 0 {
		t.Fatal("P13.1: New is not empty")
	}
	for _, o := range append(huge(), 0, 1, 2, 400) {
		refuses(t, h, o, 0, api.ANil)
		if h.Free(o) != api.ANil || h.Site(o) != -1 || h.Freed(o) {
			t.Errorf("P13.1: a new heap has the object %d", o)
		}
	}
	if h.Len() != 0 || h.Alloc(3, nil) != 1 {
		t.Error("P13.1: what was asked in vain is kept")
	}
}

func TestFieldsBeginWithZero(t *testing.T) {
	h := value.New()
	for k, x := range []struct {
		rec  []api.Type
		want []api.Value
	}{
		{nil, nil},
		{[]api.Type{{}}, []api.Value{zeroInt}},
		{[]api.Type{{Kind: api.TPtr}}, []api.Value{zeroNil}},
		{mixed(), []api.Value{zeroNil, zeroInt, zeroNil, zeroNil}},
		{[]api.Type{{Kind: -1}, {Kind: api.TInt, N: 9}, {Kind: 4}, {N: -1}, {Kind: math.MaxInt}, {}}, []api.Value{zeroNil, zeroInt, zeroNil, zeroInt, zeroNil, zeroInt}},
	} {
		if o := h.Alloc(k, x.rec); o != int64(k+1) || h.Len() != k+1 || !holds(h, o, x.want...) {
			t.Errorf("P13.1: Alloc of %v: %d, Len %d", x.rec, o, h.Len())
		}
	}
}

func TestSites(t *testing.T) {
	h := value.New()
	sites := []int{7, 0, -1, 7, 599, math.MinInt, math.MaxInt, 1 << 32, -1 << 32}
	for k, site := range sites {
		if o := h.Alloc(site, mixed()); o != int64(k+1) {
			t.Errorf("P13.1: Alloc at %d: %d", site, o)
		}
	}
	for range 2 {
		for k, site := range sites {
			if got := h.Site(int64(k + 1)); got != site {
				t.Errorf("P13.1: Site of %d: %d, not %d", k+1, got, site)
			}
			// A free object keeps its site.
			h.Free(int64(k + 1))
		}
	}
	for _, o := range append(huge(), 0, int64(len(sites)+1)) {
		if got := h.Site(o); got != -1 {
			t.Errorf("P13.1: Site of %d, which is none: %d", o, got)
		}
	}
}

func TestSetAndGet(t *testing.T) {
	h := value.New()
	h.Alloc(1, mixed())
	h.Alloc(2, mixed())
	h.Alloc(3, mixed())
	first := []api.Value{{Kind: api.VPtr, N: 3}, {N: 41, Taint: true}, {Kind: api.VFun, N: 2}, zeroNil}
	for k, v := range first {
		h.Set(1, k, v)
	}
	for field := range 4 {
		want := []api.Value{zeroNil, zeroInt, zeroNil, zeroNil}
		was := want[field]
		for _, v := range odd() {
			want[field] = v
			if why := h.Set(2, field, v); why != 0 || !holds(h, 2, want...) {
				t.Errorf("P13.1: Set(2, %d, %v): %d", field, v, why)
			}
		}
		h.Set(2, field, was)
	}
	if !holds(h, 1, first...) || !holds(h, 3, zeroNil, zeroInt, zeroNil, zeroNil) || h.Len() != 3 {
		t.Error("P13.1: Set has changed others")
	}
}

func TestWrongObjectsAndFields(t *testing.T) {
	h := value.New()
	rec := []api.Type{{}, {Kind: api.TPtr}}
	h.Alloc(1, rec)
	h.Alloc(2, nil)
	for _, n := range append(huge(), 2, 3, 4) {
		refuses(t, h, 1, int(n), api.ANil)
		refuses(t, h, 2, int(n), api.ANil)
	}
	refuses(t, h, 2, 0, api.ANil)
	refuses(t, h, 2, 1, api.ANil)
	for _, o := range append(huge(), 0, 3, 4, 400) {
		for _, field := range []int{0, 1, 2, -1, math.MinInt, math.MaxInt} {
			refuses(t, h, o, field, api.ANil)
		}
		if h.Free(o) != api.ANil || h.Freed(o) || h.Free(o) != api.ANil {
			t.Errorf("P13.1: Free of %d, which is none", o)
		}
	}
	if !holds(h, 1, zeroInt, zeroNil) || !holds(h, 2) || h.Freed(1) || h.Freed(2) || h.Len() != 2 {
		t.Error("P13.1: what was asked in vain has changed the heap")
	}
}

func TestFree(t *testing.T) {
	h := value.New()
	for k := range 3 {
		h.Alloc(k, mixed())
	}
	h.Alloc(3, nil)
	v := api.Value{Kind: api.VPtr, N: 2, Taint: true}
	h.Set(2, 0, v)
	h.Set(3, 0, v)
	for _, o := range []int64{2, 4} {
		if h.Freed(o) || h.Free(o) != 0 || !h.Freed(o) {
			t.Errorf("P13.1: Free of %d", o)
		}
		for _, field := range []int{0, 1, 3, 4, 9, -1, math.MinInt, math.MaxInt, 1 << 32} {
			refuses(t, h, o, field, api.AFreed)
		}
		if h.Free(o) != api.AFreed || h.Free(o) != api.AFreed || !h.Freed(o) || h.Site(o) != int(o-1) {
			t.Errorf("P13.1: %d, which is free", o)
		}
	}
	if h.Freed(1) || h.Freed(3) || h.Freed(5) || h.Freed(0) || h.Freed(-2) || h.Freed(1<<32+2) {
		t.Error("P13.1: others are free too")
	}
	if !holds(h, 1, zeroNil, zeroInt, zeroNil, zeroNil) || !holds(h, 3, v, zeroInt, zeroNil, zeroNil) || h.Len() != 4 {
		t.Error("P13.1: Free has changed others")
	}
	// The number of a free object is not given again.
	if o := h.Alloc(9, mixed()); o != 5 || !h.Freed(2) || h.Freed(5) || h.Site(2) != 1 {
		t.Errorf("P13.1: Alloc behind a Free: %d", o)
	}
}

func TestMaxHeap(t *testing.T) {
	h := value.New()
	for k := range api.MaxHeap {
		if o := h.Alloc(1000+k, []api.Type{{}}); o != int64(k+1) || h.Len() != k+1 {
			t.Fatalf("P13.1: Alloc %d: %d, Len %d", k, o, h.Len())
		}
		if why := h.Set(int64(k+1), 0, api.Value{N: int64(k)}); why != 0 {
			t.Fatalf("P13.1: Set of %d: %d", k+1, why)
		}
	}
	for round := range 3 {
		if o := h.Alloc(5, mixed()); o != 0 || h.Len() != 400 {
			t.Errorf("P13.1: round %d: Alloc behind the last: %d, Len %d", round, o, h.Len())
		}
		refuses(t, h, 401, 0, api.ANil)
		refuses(t, h, 0, 0, api.ANil)
		// Room does not come back: free objects are objects too.
		h.Free(400)
		h.Free(int64(round + 1))
	}
	for k := range api.MaxHeap {
		o := int64(k + 1)
		free := o <= 3 || o == 400
		if h.Site(o) != 1000+k || h.Freed(o) != free || !free && !holds(h, o, api.Value{N: int64(k)}) {
			t.Errorf("P13.1: the object %d of a full heap", o)
		}
	}
	if h.Site(401) != -1 || h.Free(401) != api.ANil || h.Freed(401) {
		t.Error("P13.1: the object 401")
	}
}

func TestAddOfInts(t *testing.T) {
	const least, most = math.MinInt64, math.MaxInt64
	for _, x := range [][3]int64{
		{0, 0, 0}, {2, 3, 5}, {-2, 3, 1}, {2, -3, -1}, {-2, -3, -5}, {1 << 32, 1 << 32, 1 << 33}, {most, 0, most}, {least, 0, least},
		{most, least, -1}, {most, 1, least}, {least, -1, most}, {most, most, -2}, {least, least, 0}, {least, 1, least + 1}, {1 << 62, 1 << 62, least},
	} {
		for taints := range 4 {
			a, b := api.Value{N: x[0], Taint: taints&1 != 0}, api.Value{N: x[1], Taint: taints&2 != 0}
			want := api.Value{Kind: api.VInt, N: x[2], Taint: taints != 0}
			if got := value.Add(a, b); got != want {
				t.Errorf("P13.1: Add(%v, %v): %v", a, b, got)
			}
			if got := value.Add(b, a); got != want {
				t.Errorf("P13.1: Add(%v, %v): %v", b, a, got)
			}
		}
	}
}

func TestAddOfOthers(t *testing.T) {
	for _, a := range odd() {
		for _, b := range odd() {
			var want api.Value
			if a.Kind == api.VInt && b.Kind == api.VInt {
				want = api.Value{N: a.N + b.N, Taint: a.Taint || b.Taint}
			}
			if got := value.Add(a, b); got != want {
				t.Errorf("P13.1: Add(%v, %v): %v", a, b, got)
			}
		}
	}
}

func TestNil(t *testing.T) {
	var h *value.Heap
	for range 2 {
		for _, o := range append(huge(), 0, 1, 2, 400) {
			for _, field := range []int{0, 1, -1, math.MinInt, math.MaxInt} {
				refuses(t, h, o, field, api.ANil)
			}
			if h.Free(o) != api.ANil || h.Site(o) != -1 || h.Freed(o) {
				t.Errorf("P13.1: a nil *Heap has the object %d", o)
			}
		}
		if h.Alloc(1, nil) != 0 || h.Alloc(1, mixed()) != 0 || h.Len() != 0 {
			t.Error("P13.1: a nil *Heap takes objects")
		}
	}
}

func TestZeroValue(t *testing.T) {
	var h value.Heap
	refuses(t, &h, 1, 0, api.ANil)
	if h.Len() != 0 || h.Site(1) != -1 || h.Free(1) != api.ANil || h.Freed(1) {
		t.Error("P0.1: the zero value is not empty")
	}
	if h.Alloc(4, mixed()) != 1 || h.Len() != 1 || h.Site(1) != 4 || !holds(&h, 1, zeroNil, zeroInt, zeroNil, zeroNil) || h.Free(1) != 0 {
		t.Error("P0.1: the zero value")
	}
}
