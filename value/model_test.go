package value_test

import (
	"testing"

	"haruspex/api"
	"haruspex/value"
)

// cell names a field of an object.
type cell struct {
	o     int64
	field int
}

// model is the promise word by word, to hold the package against: one map for all fields of all objects.
type model struct {
	sites []int
	holds map[cell]api.Value
	free  map[int64]bool
}

func (m *model) alloc(site int, rec []api.Type) int64 {
	if len(m.sites) == 400 {
		return 0
	}
	m.sites = append(m.sites, site)
	o := int64(len(m.sites))
	for k, t := range rec {
		v := api.Value{Kind: 1}
		if t.Kind == 0 {
			v.Kind = 0
		}
		m.holds[cell{o, k}] = v
	}
	return o
}

func (m *model) is(o int64) bool { return 1 <= o && o <= int64(len(m.sites)) }

func (m *model) get(o int64, field int) (api.Value, int) {
	if m.free[o] {
		return api.Value{}, 2
	}
	v, ok := m.holds[cell{o, field}]
	if !ok {
		return api.Value{}, 1
	}
	return v, 0
}

func (m *model) set(o int64, field int, v api.Value) int {
	_, why := m.get(o, field)
	if why == 0 {
		m.holds[cell{o, field}] = v
	}
	return why
}

func (m *model) freeIt(o int64) int {
	if !m.is(o) {
		return 1
	}
	if m.free[o] {
		return 2
	}
	m.free[o] = true
	return 0
}

func (m *model) site(o int64) int {
	if !m.is(o) {
		return -1
	}
	return m.sites[o-1]
}

// dice gives the same numbers at each run.
type dice uint64

func (d *dice) roll(n int) int {
	*d = *d*6364136223846793005 + 1442695040888963407
	return int(uint64(*d)>>33) % n
}

func (d *dice) rec() []api.Type {
	rec := make([]api.Type, d.roll(7))
	for k := range rec {
		rec[k] = api.Type{Kind: d.roll(6) - 1, N: d.roll(5) - 1}
	}
	return rec
}

// step does one thing with both and tells whether they say the same.
func step(d *dice, h *value.Heap, m *model, allocs int) bool {
	o, field := int64(d.roll(len(m.sites)+4)-1), d.roll(9)-1
	switch kind := d.roll(20); {
	case kind < allocs:
		site, rec := d.roll(700)-20, d.rec()
		return h.Alloc(site, rec) == m.alloc(site, rec)
	case kind == 19:
		return h.Free(o) == m.freeIt(o)
	case kind > 14:
		v := api.Value{Kind: d.roll(6) - 1, N: int64(d.roll(900) - 30), Taint: d.roll(2) == 0}
		return h.Set(o, field, v) == m.set(o, field, v)
	default:
		a, why := h.Get(o, field)
		b, also := m.get(o, field)
		return a == b && why == also && h.Site(o) == m.site(o) && h.Freed(o) == m.free[o]
	}
}

// same holds all of h against m, and what stands around it.
func same(h *value.Heap, m *model) bool {
	for o := int64(-1); o <= int64(len(m.sites)+2); o++ {
		for field := -1; field < 8; field++ {
			a, why := h.Get(o, field)
			if b, also := m.get(o, field); a != b || why != also {
				return false
			}
		}
		if h.Site(o) != m.site(o) || h.Freed(o) != m.free[o] {
			return false
		}
	}
	return true
}

func TestAgainstModel(t *testing.T) {
	d := dice(13)
	for round := range 120 {
		h, m := value.New(), &model{holds: map[cell]api.Value{}, free: map[int64]bool{}}
		// From heaps of few objects to heaps that are soon full.
		allocs := 1 + round%12
		for k := range 1200 {
			if !step(&d, h, m, allocs) || h.Len() != len(m.sites) {
				t.Fatalf("P13.1: round %d, step %d: Len %d, the model %d", round, k, h.Len(), len(m.sites))
			}
		}
		if !same(h, m) {
			t.Fatalf("P13.1: round %d: the heap is not as the model", round)
		}
	}
}
