package union_test

import (
	"math"
	"slices"
	"testing"

	"haruspex/api"
	"haruspex/union"
)

// hold holds all that u tells of its groups against want.
func hold(t *testing.T, u *union.Union, want [][]int) {
	t.Helper()
	if got := u.Groups(); !slices.EqualFunc(got, want, slices.Equal[[]int]) {
		t.Errorf("P2.1: Groups: %v, not %v", got, want)
	}
	if u.Len() != len(want) {
		t.Errorf("P2.1: Len: %d, not %d", u.Len(), len(want))
	}
	for _, group := range want {
		for _, a := range group {
			if got := u.Find(a); got != group[0] {
				t.Errorf("P2.1: Find(%d): %d, not %d", a, got, group[0])
			}
		}
	}
}

// alone gives n groups of one number.
func alone(n int) [][]int {
	var groups [][]int
	for a := range n {
		groups = append(groups, []int{a})
	}
	return groups
}

// outside gives numbers that a Union of n numbers does not have.
func outside(n int) []int {
	return []int{math.MinInt, math.MinInt32, -n - 1, -n, -2, -1, n, n + 1, api.MaxSet, api.MaxSet + 1, 1 << 16, 1 << 32, 1<<32 + 1, math.MaxInt}
}

func TestNew(t *testing.T) {
	for _, c := range []struct{ n, size int }{
		{math.MinInt, 0}, {-5000, 0}, {-1, 0}, {0, 0}, {1, 1}, {2, 2}, {64, 64}, {4999, 4999},
		{5000, 5000}, {5001, 5000}, {1 << 32, 5000}, {math.MaxInt, 5000},
	} {
		u := union.New(c.n)
		if u == nil {
			t.Fatalf("P2.1: New(%d) is nil", c.n)
		}
		hold(t, u, alone(c.size))
		if u.Find(c.size) != -1 {
			t.Errorf("P2.1: New(%d) has %d", c.n, c.size)
		}
	}
}

func TestFindIsTheLeast(t *testing.T) {
	u := union.New(10)
	for _, c := range []struct{ a, b, least, groups int }{
		{9, 8, 8, 9}, {7, 9, 7, 8}, {3, 4, 3, 7}, {4, 8, 3, 6}, {0, 1, 0, 5}, {9, 1, 0, 4},
	} {
		if !u.Join(c.a, c.b) {
			t.Errorf("P2.1: Join(%d, %d) says that nothing has changed", c.a, c.b)
		}
		if u.Find(c.a) != c.least || u.Find(c.b) != c.least || u.Len() != c.groups {
			t.Errorf("P2.1: behind Join(%d, %d): %v", c.a, c.b, u.Groups())
		}
	}
	hold(t, u, [][]int{{0, 1, 3, 4, 7, 8, 9}, {2}, {5}, {6}})
}

func TestJoinTellsAChange(t *testing.T) {
	u := union.New(6)
	if !u.Join(4, 2) || !u.Join(5, 4) {
		t.Error("P2.1: a Join that changes something")
	}
	for _, c := range [][2]int{{2, 4}, {4, 2}, {2, 5}, {5, 2}, {5, 4}, {4, 5}, {0, 0}, {2, 2}, {5, 5}} {
		if u.Join(c[0], c[1]) {
			t.Errorf("P2.1: Join(%d, %d) says that something has changed", c[0], c[1])
		}
	}
	hold(t, u, [][]int{{0}, {1}, {2, 4, 5}, {3}})
}

func TestSame(t *testing.T) {
	u := union.New(6)
	u.Join(4, 2)
	u.Join(5, 4)
	group := []int{0, 1, 2, 3, 2, 2}
	for a := range 6 {
		for b := range 6 {
			if u.Same(a, b) != (group[a] == group[b]) {
				t.Errorf("P2.1: Same(%d, %d): %t", a, b, u.Same(a, b))
			}
		}
	}
}

func TestNoSuchNumber(t *testing.T) {
	for _, n := range []int{0, 1, 8, api.MaxSet} {
		u := union.New(n)
		for _, a := range outside(n) {
			if a >= 0 && a < n {
				continue
			}
			if u.Find(a) != -1 {
				t.Errorf("P2.1: of %d: Find(%d): %d", n, a, u.Find(a))
			}
			for _, b := range []int{0, n - 1, a, -1, math.MaxInt} {
				if u.Same(a, b) || u.Same(b, a) || u.Join(a, b) || u.Join(b, a) {
					t.Errorf("P2.1: of %d: %d and %d", n, a, b)
				}
			}
		}
		hold(t, u, alone(n))
	}
}

func TestNil(t *testing.T) {
	var u *union.Union
	for _, a := range append(outside(8), 0, 1) {
		if u.Find(a) != -1 || u.Join(a, a) || u.Join(0, a) || u.Same(a, a) || u.Same(a, 0) {
			t.Errorf("P2.1: a nil *Union, %d", a)
		}
	}
	hold(t, u, nil)
}

func TestZeroValueHasNone(t *testing.T) {
	var u union.Union
	if u.Find(0) != -1 || u.Join(0, 0) || u.Join(0, 1) || u.Same(0, 0) {
		t.Error("P0.1: the zero value has numbers")
	}
	hold(t, &u, nil)
}

func TestGroupsAreNewMemory(t *testing.T) {
	u := union.New(12)
	for _, c := range [][2]int{{3, 0}, {6, 3}, {9, 6}, {4, 1}, {7, 4}, {5, 11}} {
		u.Join(c[0], c[1])
	}
	want := [][]int{{0, 3, 6, 9}, {1, 4, 7}, {2}, {5, 11}, {8}, {10}}
	first, second := u.Groups(), u.Groups()
	for k := range first {
		// The spare room too: a list that grows must not run into its neighbour.
		room := first[k][:cap(first[k])]
		for i := range room {
			room[i] = -7
		}
		for j := k + 1; j < len(first); j++ {
			if !slices.Equal(first[j], want[j]) {
				t.Errorf("P0.3: who writes into group %d changes group %d: %v", k, j, first[j])
			}
		}
	}
	clear(first[:cap(first)])
	if !slices.EqualFunc(second, want, slices.Equal[[]int]) {
		t.Errorf("P0.3: another answer was changed: %v", second)
	}
	hold(t, u, want)
}

func TestApart(t *testing.T) {
	u, v := union.New(4), union.New(4)
	u.Join(0, 1)
	copied := *u
	u.Join(2, 3)
	copied.Join(1, 2)
	v.Join(3, 0)
	hold(t, u, [][]int{{0, 1}, {2, 3}})
	hold(t, &copied, [][]int{{0, 1, 2}, {3}})
	hold(t, v, [][]int{{0, 3}, {1}, {2}})
}

// Each of these orders makes chains as long as can be; all of them end with one group.
func TestLongChains(t *testing.T) {
	const n = api.MaxSet
	for name, join := range map[string]func(u *union.Union, k int) bool{
		"rising":         func(u *union.Union, k int) bool { return u.Join(k, k+1) },
		"rising, turned": func(u *union.Union, k int) bool { return u.Join(k+1, k) },
		"falling":        func(u *union.Union, k int) bool { return u.Join(n-2-k, n-1-k) },
		"falling, ends":  func(u *union.Union, k int) bool { return u.Join(n-2-k, n-1) },
		"all with 0":     func(u *union.Union, k int) bool { return u.Join(k+1, 0) },
		"all with last":  func(u *union.Union, k int) bool { return u.Join(k, n-1) },
	} {
		u := union.New(n)
		for k := range n - 1 {
			if !join(u, k) || u.Len() != n-1-k {
				t.Fatalf("P2.1: %s: step %d, Len %d", name, k, u.Len())
			}
		}
		var all []int
		for a := range n {
			all = append(all, a)
		}
		hold(t, u, [][]int{all})
	}
}
