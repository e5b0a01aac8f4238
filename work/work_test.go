package work_test

import (
	"math"
	"slices"
	"testing"

	"haruspex/work"
)

// filled gives a list with picks in which the numbers wait.
func filled(t *testing.T, picks []int, numbers ...int) *work.List {
	t.Helper()
	l := work.New(picks)
	if l == nil {
		t.Fatalf("P3.1: New(%v) is nil", picks)
	}
	for _, n := range numbers {
		if !l.Push(n) {
			t.Errorf("P3.1: Push(%d) says that it waits already", n)
		}
	}
	return l
}

// hold pops all of l, which must come as want, and holds Len and Pops against that at each step.
func hold(t *testing.T, l *work.List, want ...int) {
	t.Helper()
	before := l.Pops()
	for k, n := range want {
		if l.Len() != len(want)-k || l.Pops() != before+k {
			t.Errorf("P3.1: ahead of Pop %d of %v: Len %d, Pops %d", k, want, l.Len(), l.Pops())
		}
		if got, ok := l.Pop(); got != n || !ok {
			t.Errorf("P3.1: Pop %d of %v: %d, %t", k, want, got, ok)
		}
	}
	for range 2 {
		if got, ok := l.Pop(); got != 0 || ok {
			t.Errorf("P3.1: Pop behind %v: %d, %t", want, got, ok)
		}
		if l.Len() != 0 || l.Pops() != before+len(want) {
			t.Errorf("P3.1: behind %v: Len %d, Pops %d", want, l.Len(), l.Pops())
		}
	}
}

func TestNewIsEmpty(t *testing.T) {
	for _, picks := range [][]int{nil, {}, {0}, {3, 1}, {-1}, {math.MinInt, math.MaxInt}} {
		hold(t, filled(t, picks))
	}
}

func TestWithoutPicksTheFirstGoes(t *testing.T) {
	for _, picks := range [][]int{nil, {}, {0, 0, 0}, {-1, -2, math.MinInt}} {
		hold(t, filled(t, picks, 4, 9, 2, 7, 1), 4, 9, 2, 7, 1)
	}
}

func TestPicks(t *testing.T) {
	for _, c := range []struct{ picks, want []int }{
		{[]int{1}, []int{20, 10, 30, 40, 50}},
		{[]int{2}, []int{30, 10, 20, 40, 50}},
		{[]int{3}, []int{40, 10, 20, 30, 50}},
		{[]int{4}, []int{50, 10, 20, 30, 40}},
		{[]int{5}, []int{10, 20, 30, 40, 50}},
		{[]int{4, 3, 2, 1, 0}, []int{50, 40, 30, 20, 10}},
		{[]int{1, 1, 1, 1, 1}, []int{20, 30, 40, 50, 10}},
		{[]int{4, 4, 4, 4, 4}, []int{50, 10, 30, 20, 40}},
		{[]int{9, 9, 9, 9, 9}, []int{50, 20, 10, 40, 30}},
		{[]int{0, -1, 2, -7, 3}, []int{10, 20, 50, 30, 40}},
		{[]int{math.MaxInt, math.MinInt, math.MaxInt - 1}, []int{30, 10, 20, 40, 50}},
		{[]int{-4}, []int{10, 20, 30, 40, 50}},
		{[]int{1, 0, 0, 0, 0, 1, 1, 1}, []int{20, 10, 30, 40, 50}},
	} {
		hold(t, filled(t, c.picks, 10, 20, 30, 40, 50), c.want...)
	}
}

func TestAPickOfEachSize(t *testing.T) {
	// MaxInt is odd and 1 mod 3: the places are told here, not worked out.
	for _, c := range []struct{ pick, second, third int }{
		{math.MaxInt, 1, 1}, {1 << 40, 0, 1}, {1<<32 + 1, 1, 2}, {1 << 32, 0, 1}, {-1 << 32, 0, 0}, {-1, 0, 0}, {math.MinInt, 0, 0},
	} {
		for k, place := range []int{0, c.second, c.third} {
			l := filled(t, []int{c.pick})
			for n := range k + 1 {
				l.Push(n)
			}
			if got, ok := l.Pop(); got != place || !ok {
				t.Errorf("P3.1: pick %d of %d: %d, %t", c.pick, k+1, got, ok)
			}
		}
	}
}

func TestAPopOfNothingTakesNoPick(t *testing.T) {
	l := work.New([]int{1, 2, 0})
	hold(t, l)
	for _, n := range []int{5, 6, 7, 8} {
		l.Push(n)
	}
	if n, ok := l.Pop(); n != 6 || !ok {
		t.Errorf("P3.1: the first pick: %d, %t", n, ok)
	}
	hold(t, l, 8, 5, 7)
}

func TestPushTellsWhoWaits(t *testing.T) {
	l := filled(t, []int{1, 1}, 3, 1, 2)
	for range 2 {
		for _, n := range []int{1, 2, 3} {
			if l.Push(n) || l.Len() != 3 {
				t.Errorf("P3.1: %d waits twice, Len %d", n, l.Len())
			}
		}
	}
	l.Pop()
	if !l.Push(1) || l.Push(1) || l.Push(2) || l.Push(3) {
		t.Error("P3.1: what has gone may wait again, the others not")
	}
	hold(t, l, 2, 3, 1)
	hold(t, l)
	if !l.Push(2) || l.Push(2) || l.Pops() != 4 {
		t.Errorf("P3.1: behind the last, Pops %d", l.Pops())
	}
	hold(t, l, 2)
}

func TestAnyNumberMayWait(t *testing.T) {
	numbers := []int{0, -1, 1, math.MinInt, math.MaxInt, 5000, -5000, 1 << 32, -1 << 32, math.MinInt + 1}
	l := filled(t, nil, numbers...)
	for _, n := range numbers {
		if l.Push(n) {
			t.Errorf("P3.1: %d waits twice", n)
		}
	}
	hold(t, l, numbers...)
}

func TestPushBetweenPops(t *testing.T) {
	l := work.New([]int{2, 0, 1, 4})
	var got []int
	for k := range 8 {
		l.Push(3 * k)
		l.Push(3*k + 1)
		l.Push(3*k + 2)
		n, _ := l.Pop()
		got = append(got, n)
	}
	if want := []int{2, 0, 3, 7, 1, 4, 5, 6}; !slices.Equal(got, want) || l.Len() != 16 || l.Pops() != 8 {
		t.Errorf("P3.1: %v, not %v; Len %d, Pops %d", got, want, l.Len(), l.Pops())
	}
}

func TestNil(t *testing.T) {
	var l *work.List
	for _, n := range []int{0, 1, -1, math.MinInt, math.MaxInt} {
		if l.Push(n) || l.Push(n) {
			t.Errorf("P3.1: a nil *List takes %d", n)
		}
		hold(t, l)
	}
}

func TestZeroValue(t *testing.T) {
	var l work.List
	hold(t, &l)
	if !l.Push(6) || l.Push(6) || !l.Push(5) {
		t.Error("P0.1: the zero value")
	}
	hold(t, &l, 6, 5)
}

func TestPicksAreNeitherChangedNorKept(t *testing.T) {
	room := []int{1, 2, -3, 1, 7, 8, 9}
	picks := room[:3]
	l := filled(t, picks, 10, 20, 30, 40, 50)
	if !slices.Equal(room, []int{1, 2, -3, 1, 7, 8, 9}) {
		t.Errorf("P0.3: New has changed the picks: %v", room)
	}
	copy(room, []int{4, 4, 4, 4, 4, 4, 4})
	// A fourth pick is not there, though the room behind the third has one.
	hold(t, l, 20, 40, 10, 30, 50)
	if !slices.Equal(room, []int{4, 4, 4, 4, 4, 4, 4}) {
		t.Errorf("P0.3: Pop has changed the picks: %v", room)
	}
}

func TestApart(t *testing.T) {
	picks := []int{1, 1}
	a, b := filled(t, picks, 1, 2, 3), filled(t, picks, 3, 2, 1)
	a.Pop()
	if b.Len() != 3 || b.Pops() != 0 || a.Push(1) || !a.Push(2) || b.Push(2) {
		t.Error("P0.5: one list hangs on the other")
	}
	hold(t, a, 3, 1, 2)
	hold(t, b, 2, 1, 3)
}

// Long lines, taken from the front, from the end and from both in turn.
func TestLong(t *testing.T) {
	const n = 100_000
	picks := make([]int, n)
	for k := range picks {
		picks[k] = n - 1 - k
	}
	front, end, turns := work.New(nil), work.New(picks), make([]int, n)
	for k := range turns {
		turns[k] = k % 2 * (n - 1 - k)
	}
	both := work.New(turns)
	for k := range n {
		if !front.Push(k) || !end.Push(k) || !both.Push(k) || front.Push(k/2) {
			t.Fatalf("P3.1: Push(%d)", k)
		}
	}
	for k := range n {
		turn := k / 2
		if k%2 == 1 {
			turn = n - 1 - k/2
		}
		a, _ := front.Pop()
		b, _ := end.Pop()
		c, _ := both.Pop()
		if a != k || b != n-1-k || c != turn {
			t.Fatalf("P3.1: Pop %d: %d, %d, %d", k, a, b, c)
		}
	}
	hold(t, front)
	hold(t, end)
	hold(t, both)
}
