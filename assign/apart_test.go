package assign_test

import (
	"errors"
	"fmt"
	"reflect"
	"slices"
	"testing"

	"haruspex/api"
	"haruspex/assign"
	"haruspex/refuse"
)

// mixed gives a program of all kinds of ends, with calls, and a block that is not reached.
func mixed() *api.Program {
	call := api.Instr{Op: api.OCall, Dst: 3, N: 1, Args: []int{0, 2, 1}}
	return program(diamond(), function(2, 4,
		branch(0, 1, 2, set(2)...),
		jump(2, call),
		branch(1, 2, 4, call),
		jump(3, read(3)...),
		gives(3, set(0)...),
	))
}

// wrong are turns of mixed into programs that are refused or are none.
func wrong() []func(p *api.Program) {
	return []func(p *api.Program){
		func(p *api.Program) { p.Funcs[1].Blocks[0].Code[0].Dst = 3 },
		func(p *api.Program) { p.Funcs[1].Blocks[2].Code[0].Args[2] = 3 },
		func(p *api.Program) { p.Funcs[0].Blocks[0].To = 1 },
		func(p *api.Program) { p.Funcs[0].Sig = 9 },
		func(p *api.Program) { p.Funcs[1].Blocks[1].To = -1 },
		func(p *api.Program) { p.Funcs[1].Regs = p.Funcs[1].Regs[:1] },
		func(p *api.Program) { p.Funcs[0].Blocks[0].Code = nil },
	}
}

// askAll asks each function and tells all answers as one text.
func askAll(p *api.Program) string {
	all := fmt.Sprintf("%q %q", told(assign.Shape(p)), told(assign.Check(p)))
	for f := -1; f < 3; f++ {
		all += fmt.Sprint(assign.Flow(p, f), sets(assign.In(p, f)))
	}
	return all
}

// numbers gives all numbers of v, for writing.
func numbers(v reflect.Value) []reflect.Value {
	var l []reflect.Value
	switch v.Kind() {
	case reflect.Int:
		return []reflect.Value{v}
	case reflect.Struct:
		for k := range v.NumField() {
			l = append(l, numbers(v.Field(k))...)
		}
	case reflect.Slice:
		for k := range v.Len() {
			l = append(l, numbers(v.Index(k))...)
		}
	}
	return l
}

// widen puts two parts, full of marks, behind the end of each list of v.
func widen(v reflect.Value) {
	switch v.Kind() {
	case reflect.Struct:
		for k := range v.NumField() {
			widen(v.Field(k))
		}
	case reflect.Slice:
		l := reflect.MakeSlice(v.Type(), v.Len()+2, v.Len()+2)
		reflect.Copy(l, v)
		for k := range l.Len() {
			widen(l.Index(k))
		}
		for _, n := range numbers(l.Slice(v.Len(), l.Len())) {
			n.SetInt(-7)
		}
		v.Set(l.Slice(0, v.Len()))
	}
}

// whole tells all of v, its lists' spare room too.
func whole(v reflect.Value) string {
	text := ""
	switch v.Kind() {
	case reflect.Int:
		return fmt.Sprint(v.Int(), " ")
	case reflect.Struct:
		for k := range v.NumField() {
			text += whole(v.Field(k))
		}
	case reflect.Slice:
		text = fmt.Sprint(v.Len(), v.Cap(), ": ")
		for k := range v.Cap() {
			text += whole(v.Slice(0, v.Cap()).Index(k))
		}
	}
	return text
}

func TestWhatIsHandedInStays(t *testing.T) {
	for k, turn := range append(wrong(), func(*api.Program) {}) {
		p := mixed()
		turn(p)
		plain := askAll(p)
		widen(reflect.ValueOf(p).Elem())
		was := whole(reflect.ValueOf(*p))
		if got := askAll(p); got != plain {
			t.Errorf("P0.5: %d: with spare room %s, without %s", k, got, plain)
		}
		if got := whole(reflect.ValueOf(*p)); got != was {
			t.Errorf("P0.3: %d: the program became %s, it was %s", k, got, was)
		}
		if again := askAll(p); again != plain {
			t.Errorf("P0.5: %d: asked again: %s, first %s", k, again, plain)
		}
	}
}

// empty makes all lists of v that have no parts nil, or none of them.
func empty(v reflect.Value, nils bool) {
	switch {
	case v.Kind() == reflect.Struct:
		for k := range v.NumField() {
			empty(v.Field(k), nils)
		}
	case v.Kind() == reflect.Slice && v.Len() == 0 && nils:
		v.SetZero()
	case v.Kind() == reflect.Slice && v.Len() == 0:
		v.Set(reflect.MakeSlice(v.Type(), 0, 0))
	case v.Kind() == reflect.Slice:
		for k := range v.Len() {
			empty(v.Index(k), nils)
		}
	}
}

func TestNilLists(t *testing.T) {
	for k, turn := range append(wrong(), func(*api.Program) {}) {
		p, q := mixed(), mixed()
		turn(p)
		turn(q)
		empty(reflect.ValueOf(p).Elem(), true)
		empty(reflect.ValueOf(q).Elem(), false)
		if askAll(p) != askAll(q) {
			t.Errorf("P0.4: %d: with nil lists %s, with empty ones %s", k, askAll(p), askAll(q))
		}
	}
}

// The same program, changed between two calls: nothing of it is kept.
func TestNothingIsKept(t *testing.T) {
	p := mixed()
	right := askAll(p)
	for k, turn := range wrong() {
		turn(p)
		if askAll(p) == right {
			t.Errorf("P0.5: %d: the change is not seen", k)
		}
		*p = *mixed()
		if got := askAll(p); got != right {
			t.Errorf("P0.5: %d: changed back: %s", k, got)
		}
	}
}

// Who writes into a flow changes neither the program nor what other calls answer, nor another list of that flow.
func TestFlowIsNewMemory(t *testing.T) {
	p := mixed()
	was, right := whole(reflect.ValueOf(*p)), askAll(p)
	for f := range 2 {
		other := assign.Flow(p, f)
		want := fmt.Sprint(other)
		for b := range other.To {
			g := assign.Flow(p, f)
			rest := fmt.Sprint(slices.Delete(slices.Clone(g.To), b, b+1))
			l := g.To[b][:cap(g.To[b])]
			for k := range l {
				l[k] = 77
			}
			_ = append(g.To[b], 78, 79)
			if got := fmt.Sprint(slices.Delete(slices.Clone(g.To), b, b+1)); got != rest {
				t.Errorf("P0.3: lists of one flow share memory: %s, it was %s", got, rest)
			}
			g.To[b] = nil
		}
		if fmt.Sprint(other) != want || whole(reflect.ValueOf(*p)) != was || askAll(p) != right {
			t.Errorf("P0.3: who writes into the flow of %d changes others", f)
		}
	}
}

// Who writes into a set changes neither another set of that answer nor what other calls answer.
func TestSetsAreNewMemory(t *testing.T) {
	p := mixed()
	right := askAll(p)
	for f := range 2 {
		other := assign.In(p, f)
		want := sets(other)
		for b := range other {
			l := assign.In(p, f)
			l[b].Add(99)
			l[b].Remove(0)
			for c := range l {
				if c != b && !l[c].Eq(other[c]) {
					t.Errorf("P0.3: the sets %d and %d of one answer are one", b, c)
				}
			}
			l[b] = nil
		}
		if sets(other) != want || askAll(p) != right {
			t.Errorf("P0.3: who writes into the sets of %d changes others", f)
		}
	}
}

// An answer keeps nothing of the program: who writes into that does not change it.
func TestAnswersAreApartFromPrograms(t *testing.T) {
	for k, turn := range append(wrong(), func(*api.Program) {}) {
		p := mixed()
		turn(p)
		want := askAll(p)
		shape, check := assign.Shape(p), assign.Check(p)
		text := ""
		g0, in0 := assign.Flow(p, 1), assign.In(p, 1)
		text = fmt.Sprint(g0, sets(in0), told(shape), told(check))
		for _, n := range numbers(reflect.ValueOf(p).Elem()) {
			n.SetInt(1)
		}
		if got := fmt.Sprint(g0, sets(in0), told(shape), told(check)); got != text {
			t.Errorf("P0.3: %d: who writes into the program changes an answer from %s to %s", k, text, got)
		}
		if askAll(p) == want {
			t.Errorf("P0.5: %d: the change is not seen", k)
		}
	}
}

// A refusal is open to who gets it: those of other calls stay as they were.
func TestRefusalsAreNewMemory(t *testing.T) {
	p := program(function(0, 1, gives(0), gives(0)))
	for name, ask := range map[string]func(*api.Program) error{"Shape": assign.Shape, "Check": assign.Check} {
		one, other := ask(p), ask(p)
		was := told(other)
		var x *refuse.Error
		if !errors.As(one, &x) {
			t.Fatalf("P11.1: %s refuses nothing", name)
		}
		*x = refuse.Error{Why: api.WhyName, At: api.Point{F: 77}, Inner: other}
		if told(other) != was || told(ask(p)) != was {
			t.Errorf("P0.3: who writes into a refusal of %s changes others", name)
		}
	}
}
