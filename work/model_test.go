package work_test

import (
	"slices"
	"testing"

	"haruspex/work"
)

// model is the promise word by word, to hold the package against.
type model struct {
	picks, line []int
	pops        int
}

func (m *model) push(n int) bool {
	if slices.Contains(m.line, n) {
		return false
	}
	m.line = append(m.line, n)
	return true
}

func (m *model) pop() (int, bool) {
	if len(m.line) == 0 {
		return 0, false
	}
	place := 0
	if m.pops < len(m.picks) && m.picks[m.pops] >= 0 {
		place = m.picks[m.pops] % len(m.line)
	}
	m.pops++
	n := m.line[place]
	var rest []int
	for _, other := range m.line {
		if other != n {
			rest = append(rest, other)
		}
	}
	m.line = rest
	return n, true
}

// dice gives the same numbers at each run.
type dice uint64

func (d *dice) roll(n int) int {
	*d = *d*6364136223846793005 + 1442695040888963407
	return int(uint64(*d)>>33) % n
}

// step does one thing with both and tells whether they say the same.
func step(d *dice, l *work.List, m *model, pushes int) bool {
	if d.roll(10) < pushes {
		n := d.roll(60) - 30
		return l.Push(n) == m.push(n)
	}
	a, ok := l.Pop()
	b, also := m.pop()
	return a == b && ok == also
}

func TestAgainstModel(t *testing.T) {
	d := dice(3)
	for round := range 300 {
		picks := make([]int, d.roll(120))
		for k := range picks {
			picks[k] = d.roll(200) - 40
		}
		l, m := work.New(picks), &model{picks: picks}
		// From many Pops of nothing to lines that only grow.
		pushes := round % 11
		for k := range 250 {
			if !step(&d, l, m, pushes) || l.Len() != len(m.line) || l.Pops() != m.pops {
				t.Fatalf("P3.1: round %d, step %d: Len %d, Pops %d, the model %v, %d", round, k, l.Len(), l.Pops(), m.line, m.pops)
			}
		}
	}
}
