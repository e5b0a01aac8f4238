package refuse_test

import (
	"errors"
	"fmt"
	"math"
	"slices"
	"testing"

	"haruspex/api"
	"haruspex/refuse"
)

var (
	other   = errors.New("other")
	nowhere = api.Point{F: -1}
	numbers = []int{0, 1, 2, 3, 4, 5, 6, 7, 8, -1, -7, 100, 1<<32 + 1, -1<<32 + 1, math.MaxInt, math.MinInt}
)

// wrapper wraps without a text of its own, so that long chains of it stay small.
type wrapper struct{ inner error }

func (w *wrapper) Error() string { return "wrapper" }
func (w *wrapper) Unwrap() error { return w.inner }

// hold holds all that is told of e against want.
func hold(t *testing.T, e error, why int, at api.Point, ok bool, chain ...int) {
	t.Helper()
	if got := refuse.Why(e); got != why {
		t.Errorf("P4.1: Why: %d, not %d", got, why)
	}
	if got, has := refuse.Where(e); got != at || has != ok {
		t.Errorf("P4.1: Where: %v, %t, not %v, %t", got, has, at, ok)
	}
	if got := refuse.Chain(e); !slices.Equal(got, chain) {
		t.Errorf("P4.1: Chain: %v, not %v", got, chain)
	}
}

func TestNew(t *testing.T) {
	points := []api.Point{{}, nowhere, {F: 1, B: 2, I: 3}, {F: -1, B: 2, I: 3}, {F: math.MaxInt, B: math.MinInt, I: -1}}
	for _, why := range numbers {
		for _, at := range points {
			for _, inner := range []error{nil, other, &wrapper{other}, refuse.New(2, nowhere, nil)} {
				e := refuse.New(why, at, inner)
				var x *refuse.Error
				if !errors.As(e, &x) || *x != (refuse.Error{Why: why, At: at, Inner: inner}) {
					t.Fatalf("P4.1: New(%d, %v, %v): %+v", why, at, inner, x)
				}
				if e != error(x) || x.Unwrap() != inner || errors.Unwrap(e) != inner {
					t.Errorf("P4.1: New(%d, %v, %v): Unwrap %v", why, at, inner, x.Unwrap())
				}
			}
		}
	}
}

func TestText(t *testing.T) {
	for _, c := range []struct {
		why  int
		at   api.Point
		want string
	}{
		{1, api.Point{}, "bytes at 0.0.0"},
		{2, api.Point{F: 0, B: 1, I: 0}, "bound at 0.1.0"},
		{3, api.Point{F: 11, B: 10, I: 30}, "name at 11.10.30"},
		{4, api.Point{F: 1, B: -2, I: -30}, "type at 1.-2.-30"},
		{5, api.Point{F: -1, B: 2, I: 3}, "assign"},
		{6, api.Point{F: math.MinInt, B: math.MaxInt, I: 1}, "shape"},
		{7, api.Point{F: math.MaxInt, B: math.MinInt, I: math.MaxInt}, "methods at 9223372036854775807.-9223372036854775808.9223372036854775807"},
		{0, api.Point{}, "? at 0.0.0"},
		{8, nowhere, "?"},
		{math.MinInt, api.Point{F: 7}, "? at 7.0.0"},
	} {
		for _, inner := range []error{nil, other, refuse.New(4, api.Point{F: 9}, other)} {
			if got := refuse.New(c.why, c.at, inner).Error(); got != c.want {
				t.Errorf("P4.1: the text of %d, %v, %v: %q, not %q", c.why, c.at, inner, got, c.want)
			}
		}
	}
}

func TestName(t *testing.T) {
	names := map[int]string{
		api.WhyBytes: "bytes", api.WhyBound: "bound", api.WhyName: "name", api.WhyType: "type",
		api.WhyAssign: "assign", api.WhyShape: "shape", api.WhyMethods: "methods",
	}
	for _, why := range numbers {
		want := "?"
		if name, ok := names[why]; ok {
			want = name
		}
		if got := refuse.Name(why); got != want {
			t.Errorf("P4.1: Name(%d): %q, not %q", why, got, want)
		}
	}
}

func TestIs(t *testing.T) {
	for _, why := range numbers {
		e := &refuse.Error{Why: why, At: nowhere, Inner: other}
		for _, asked := range numbers {
			// Neither the place nor what is wrapped counts.
			target := &refuse.Error{Why: asked, At: api.Point{F: 3}, Inner: &wrapper{e}}
			want := asked == 0 || asked == why
			if e.Is(target) != want || errors.Is(e, target) != want {
				t.Errorf("P4.1: is %d a %d: %t", why, asked, e.Is(target))
			}
		}
	}
}

func TestIsAsksTheWholeChain(t *testing.T) {
	e := refuse.New(4, nowhere, fmt.Errorf("mid %w", refuse.New(2, nowhere, &wrapper{refuse.New(100, nowhere, other)})))
	for _, why := range numbers {
		want := slices.Contains([]int{0, 4, 2, 100}, why)
		for _, whole := range []error{e, &wrapper{e}, errors.Join(other, e)} {
			if got := errors.Is(whole, &refuse.Error{Why: why}); got != want {
				t.Errorf("P4.1: errors.Is %d: %t", why, got)
			}
		}
	}
	if !errors.Is(e, other) || errors.Is(e, errors.New("other")) {
		t.Error("P4.1: what lies at the end of the chain")
	}
	var x *refuse.Error
	if !errors.As(e, &x) || x.Is(&refuse.Error{Why: 2}) {
		t.Error("P4.1: Is asks this one alone")
	}
}

func TestIsNoError(t *testing.T) {
	e := &refuse.Error{Why: 3}
	each, same := &refuse.Error{}, &refuse.Error{Why: 3}
	if !e.Is(each) || !e.Is(same) || !e.Is(e) {
		t.Fatal("P4.1: Is")
	}
	for k, target := range []error{
		nil, other, (*refuse.Error)(nil), many{other}, many{each},
		&wrapper{}, &wrapper{each}, &wrapper{same}, &wrapper{e}, fmt.Errorf("%w", each), errors.Join(each), errors.Join(other, same),
		puts{each}, puts{e}, panics{}, &wrapper{panics{}}, (*wrapper)(nil),
	} {
		if e.Is(target) {
			t.Errorf("P4.1: target %d is no *Error", k)
		}
	}
}

func TestWhyAndWhere(t *testing.T) {
	at, far := api.Point{F: 1, B: 2, I: 30}, api.Point{F: math.MaxInt, B: -1, I: math.MinInt}
	in := refuse.New(4, at, other)
	hold(t, in, 4, at, true, 4)
	hold(t, fmt.Errorf("mid %w", in), 4, at, true, 4)
	hold(t, &wrapper{&wrapper{in}}, 4, at, true, 4)
	hold(t, refuse.New(2, far, in), 2, far, true, 2, 4)
	hold(t, refuse.New(2, api.Point{}, in), 2, api.Point{}, true, 2, 4)
	// The first one has no place: that of another is not told in its stead.
	for _, f := range []int{-1, -2, math.MinInt} {
		hold(t, &wrapper{refuse.New(2, api.Point{F: f, B: 7, I: 8}, in)}, 2, api.Point{}, false, 2, 4)
	}
	// A reason of 0 is one too, though Why tells the same of none.
	hold(t, refuse.New(0, at, in), 0, at, true, 0, 4)
	hold(t, refuse.New(math.MinInt, nowhere, refuse.New(math.MaxInt, at, nil)), math.MinInt, api.Point{}, false, math.MinInt, math.MaxInt)
}

func TestNone(t *testing.T) {
	for _, e := range []error{nil, other, &wrapper{}, &wrapper{other}, (*refuse.Error)(nil), &wrapper{(*refuse.Error)(nil)}, many{}, many{other}, errors.Join(other, other)} {
		hold(t, e, 0, api.Point{}, false)
	}
}

func TestChain(t *testing.T) {
	e := refuse.New(1, nowhere, other)
	e = refuse.New(7, nowhere, e)
	e = &wrapper{&wrapper{e}}
	e = refuse.New(7, api.Point{F: 2}, e)
	e = refuse.New(-3, nowhere, fmt.Errorf("%w", e))
	hold(t, e, -3, api.Point{}, false, -3, 7, 7, 1)
	hold(t, &wrapper{e}, -3, api.Point{}, false, -3, 7, 7, 1)
	hold(t, refuse.New(5, nowhere, (*refuse.Error)(nil)), 5, api.Point{}, false, 5)
}

// errors.As looks into joined errors, but they have no Unwrap that gives one error: a chain of Unwraps ends there.
func TestJoined(t *testing.T) {
	at := api.Point{F: 4}
	a, b := refuse.New(1, at, other), refuse.New(2, nowhere, nil)
	for _, e := range []error{errors.Join(other, a, b), many{a, b}, fmt.Errorf("%w %w", a, b), &wrapper{&wrapper{errors.Join(a, b)}}} {
		hold(t, e, 1, at, true)
		hold(t, refuse.New(6, nowhere, e), 6, api.Point{}, false, 6)
	}
}

// puts puts an *Error forward that it does not wrap.
type puts struct{ forward *refuse.Error }

func (p puts) Error() string { return "puts" }
func (p puts) As(target any) bool {
	x, ok := target.(**refuse.Error)
	if ok {
		*x = p.forward
	}
	return ok
}

// putsToo wraps one beside.
type putsToo struct {
	puts
	inner error
}

func (p putsToo) Unwrap() error { return p.inner }

func TestPutForward(t *testing.T) {
	at := api.Point{F: 5}
	x := &refuse.Error{Why: 3, At: at}
	hold(t, puts{x}, 3, at, true)
	hold(t, puts{}, 0, api.Point{}, false)
	inner := refuse.New(1, nowhere, refuse.New(2, nowhere, nil))
	hold(t, &wrapper{putsToo{puts{x}, &wrapper{inner}}}, 3, at, true, 1, 2)
	hold(t, putsToo{puts{}, inner}, 0, api.Point{}, false, 1, 2)
	// What is put forward is told before the Unwrap that panics is asked.
	hold(t, putsToo{puts{x}, panics{}}, 3, at, true)
	hold(t, refuse.New(4, nowhere, putsToo{puts{x}, (*wrapper)(nil)}), 4, api.Point{}, false, 4)
}

// many has a type that cannot be compared.
type many []error

func (m many) Error() string   { return "many" }
func (m many) Unwrap() []error { return m }

// panics panics where it is asked.
type panics struct{}

func (p panics) Error() string { panic("Error") }
func (p panics) Unwrap() error { panic("Unwrap") }

// panicsAs panics where it is asked to be another.
type panicsAs struct{}

func (p panicsAs) Error() string { return "panicsAs" }
func (p panicsAs) As(target any) bool {
	if x, ok := target.(**refuse.Error); ok {
		*x = &refuse.Error{Why: 7}
	}
	panic(nil)
}

func TestOthersPanics(t *testing.T) {
	at := api.Point{F: 6}
	for _, e := range []error{panics{}, (*wrapper)(nil), panicsAs{}, errors.Join(panics{}, refuse.New(1, at, nil))} {
		hold(t, e, 0, api.Point{}, false)
		hold(t, &wrapper{e}, 0, api.Point{}, false)
		hold(t, &wrapper{refuse.New(3, at, refuse.New(4, nowhere, &wrapper{e}))}, 3, at, true, 3, 4)
		if got := refuse.New(3, at, e).Error(); got != "name at 6.0.0" {
			t.Errorf("P0.1: the text: %q", got)
		}
	}
	// One that is joined ahead of the one that panics is found.
	hold(t, errors.Join(refuse.New(1, at, nil), panics{}), 1, at, true)
}

func TestNil(t *testing.T) {
	var none *refuse.Error
	if none.Error() != "" || none.Unwrap() != nil {
		t.Errorf("P4.1: a nil *Error: %q, %v", none.Error(), none.Unwrap())
	}
	for k, target := range []error{nil, other, none, &refuse.Error{}, &refuse.Error{Why: 1}, &wrapper{none}} {
		if none.Is(target) {
			t.Errorf("P4.1: a nil *Error is target %d", k)
		}
	}
	hold(t, none, 0, api.Point{}, false)
}

func TestZeroValue(t *testing.T) {
	var zero refuse.Error
	if zero.Error() != "? at 0.0.0" || zero.Unwrap() != nil || !zero.Is(&refuse.Error{}) || zero.Is(&refuse.Error{Why: 1}) {
		t.Errorf("P4.1: the zero value: %q", zero.Error())
	}
	hold(t, &zero, 0, api.Point{}, true, 0)
}

// Inner is open to all: who is made to wrap himself must not hold a call up.
func TestRings(t *testing.T) {
	at := api.Point{F: 1}
	one := &refuse.Error{Why: 4, At: at}
	one.Inner = one
	hold(t, one, 4, at, true, 4)
	hold(t, refuse.New(2, nowhere, &wrapper{one}), 2, api.Point{}, false, 2, 4)
	if one.Error() != "type at 1.0.0" || one.Unwrap() != error(one) || !one.Is(one) {
		t.Error("P0.1: one that wraps itself")
	}
	c := &refuse.Error{Why: 3, At: nowhere}
	b := &refuse.Error{Why: 2, At: nowhere, Inner: &wrapper{c}}
	a := &refuse.Error{Why: 1, At: nowhere, Inner: b}
	c.Inner = fmt.Errorf("%w", a)
	hold(t, a, 1, api.Point{}, false, 1, 2, 3)
	hold(t, b, 2, api.Point{}, false, 2, 3, 1)
	hold(t, &wrapper{c}, 3, api.Point{}, false, 3, 1, 2)
	c.Inner = errors.Join(a)
	hold(t, a, 1, api.Point{}, false, 1, 2, 3)
}

func TestLong(t *testing.T) {
	const n = 200_000
	at := api.Point{F: 8}
	var want []int
	e := refuse.New(n, at, other)
	for k := range n {
		e = refuse.New(k, nowhere, e)
		want = append(want, n-1-k)
	}
	hold(t, e, n-1, api.Point{}, false, append(want, n)...)
	if !errors.Is(e, &refuse.Error{Why: n}) || errors.Is(e, &refuse.Error{Why: n + 1}) || e.Error() != "?" {
		t.Error("P4.1: a long chain")
	}
	// Many that are not ours, ahead of the one and behind it.
	var far error = other
	for range n {
		far = &wrapper{far}
	}
	far = refuse.New(5, at, far)
	for range n {
		far = &wrapper{far}
	}
	hold(t, far, 5, at, true, 5)
	if (&refuse.Error{Why: 5}).Is(far) {
		t.Error("P4.1: a target that wraps an *Error is none")
	}
}

func TestAnswersAreNewMemory(t *testing.T) {
	e := refuse.New(1, nowhere, refuse.New(2, nowhere, refuse.New(3, nowhere, nil)))
	first, second := refuse.Chain(e), refuse.Chain(e)
	room := first[:cap(first)]
	for k := range room {
		room[k] = -7
	}
	if want := []int{1, 2, 3}; !slices.Equal(second, want) || !slices.Equal(refuse.Chain(e), want) {
		t.Errorf("P0.3: another answer was changed: %v, %v", second, refuse.Chain(e))
	}
	if a, b := refuse.New(1, nowhere, nil), refuse.New(1, nowhere, nil); a == b {
		t.Error("P0.3: two News are one")
	}
}
