package union_test

import (
	"slices"
	"testing"

	"haruspex/union"
)

// model keeps of each number the least of its group, to hold the package against.
type model []int

func (m model) find(a int) int {
	if a < 0 || a >= len(m) {
		return -1
	}
	return m[a]
}

func (m model) join(a, b int) bool {
	x, y := m.find(a), m.find(b)
	if x < 0 || y < 0 || x == y {
		return false
	}
	for k := range m {
		if m[k] == x || m[k] == y {
			m[k] = min(x, y)
		}
	}
	return true
}

func (m model) groups() [][]int {
	var groups [][]int
	for least := range m {
		var group []int
		for a := range m {
			if m[a] == least {
				group = append(group, a)
			}
		}
		if group != nil {
			groups = append(groups, group)
		}
	}
	return groups
}

// dice gives the same numbers at each run.
type dice uint64

func (d *dice) roll(n int) int {
	*d = *d*6364136223846793005 + 1442695040888963407
	return int(uint64(*d)>>33) % n
}

func TestAgainstModel(t *testing.T) {
	d := dice(2)
	for range 150 {
		n := d.roll(40)
		u, m := union.New(n), make(model, n)
		for a := range m {
			m[a] = a
		}
		for step := range 2 * n {
			// Two beyond each end, so that wrong numbers come as well.
			a, b := d.roll(n+4)-2, d.roll(n+4)-2
			same := m.find(a) >= 0 && m.find(a) == m.find(b)
			if u.Same(a, b) != same || u.Join(a, b) != m.join(a, b) || u.Find(a) != m.find(a) {
				t.Fatalf("P2.1: of %d, step %d: %d and %d: %v, the model %v", n, step, a, b, u.Groups(), m.groups())
			}
			if !slices.EqualFunc(u.Groups(), m.groups(), slices.Equal[[]int]) || u.Len() != len(m.groups()) {
				t.Fatalf("P2.1: of %d, step %d: %v, the model %v", n, step, u.Groups(), m.groups())
			}
		}
	}
}
