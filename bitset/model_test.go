package bitset_test

import (
	"slices"
	"testing"

	"haruspex/api"
	"haruspex/bitset"
)

// model is a set kept in the plainest way, to hold the package against.
type model [api.MaxSet]bool

func (m *model) has(n int) bool { return n >= 0 && n < api.MaxSet && m[n] }

func (m *model) put(n int, in bool) bool {
	if n < 0 || n >= api.MaxSet || m[n] == in {
		return false
	}
	m[n] = in
	return true
}

func (m *model) all() []int {
	var l []int
	for n, in := range m {
		if in {
			l = append(l, n)
		}
	}
	return l
}

func (m *model) first(from int) int {
	for n := max(from, 0); n < api.MaxSet; n++ {
		if m[n] {
			return n
		}
	}
	return -1
}

func (m *model) in(o *model) bool {
	for n := range m {
		if m[n] && !o[n] {
			return false
		}
	}
	return true
}

// cut gives those of m that are in o, or those that are not.
func (m *model) cut(o *model, in bool) []int {
	var l []int
	for n := range m {
		if m[n] && o[n] == in {
			l = append(l, n)
		}
	}
	return l
}

// dice gives the same numbers at each run.
type dice uint64

func (d *dice) roll(n int) int {
	*d = *d*6364136223846793005 + 1442695040888963407
	return int(uint64(*d)>>33) % n
}

// number is one of a narrow stretch, so that sets meet, or any one from below 0 to beyond the end.
func (d *dice) number() int {
	if d.roll(3) == 0 {
		return d.roll(api.MaxSet+140) - 70
	}
	return 60 + d.roll(80)
}

func TestAgainstModel(t *testing.T) {
	const kept = 4
	d := dice(1)
	var sets [kept]bitset.Set
	var models [kept]model
	for step := range 20000 {
		a, b, n := d.roll(kept), d.roll(kept), d.number()
		s, u, m, o := &sets[a], &sets[b], &models[a], &models[b]
		ok := true
		switch d.roll(9) {
		case 0, 1:
			ok = s.Add(n) == m.put(n, true)
		case 2, 3:
			ok = s.Remove(n) == m.put(n, false)
		case 4:
			ok = s.Has(n) == m.has(n) && s.First(n) == m.first(n)
		case 5:
			if d.roll(20) == 0 {
				changed := !o.in(m)
				for k := range m {
					m[k] = m[k] || o[k]
				}
				ok = s.Join(u) == changed
			}
		case 6:
			ok = slices.Equal(s.Less(u).All(), m.cut(o, false)) && slices.Equal(s.Meet(u).All(), m.cut(o, true))
		case 7:
			ok = s.In(u) == m.in(o) && s.Eq(u) == (*m == *o) && s.Copy().Eq(s)
		case 8:
			ok = slices.Equal(s.All(), m.all()) && s.Len() == len(m.all())
		}
		if !ok {
			t.Fatalf("P1.1: step %d: the set %v, the model %v", step, s.All(), m.all())
		}
	}
}
