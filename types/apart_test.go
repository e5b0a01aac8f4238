package types_test

import (
	"errors"
	"fmt"
	"reflect"
	"slices"
	"testing"

	"haruspex/api"
	"haruspex/refuse"
	"haruspex/types"
)

// roomy gives great with spare room in all its lists, full of marks.
func roomy() *api.Program {
	p := great()
	widen(reflect.ValueOf(p).Elem())
	return p
}

// widen puts two parts behind the end of each list of v.
func widen(v reflect.Value) {
	switch v.Kind() {
	case reflect.Int:
		return
	case reflect.Struct:
		for k := range v.NumField() {
			widen(v.Field(k))
		}
	case reflect.Slice:
		l := reflect.MakeSlice(v.Type(), v.Len()+2, v.Len()+2)
		reflect.Copy(l, v)
		for k := range l.Len() {
			widen(l.Index(k))
		}
		for _, n := range numbers(l.Slice(v.Len(), l.Len())) {
			n.SetInt(-7)
		}
		v.Set(l.Slice(0, v.Len()))
	}
}

// whole tells all of v, its lists' spare room too.
func whole(v reflect.Value) string {
	told := ""
	switch v.Kind() {
	case reflect.Int:
		return fmt.Sprint(v.Int(), " ")
	case reflect.Struct:
		for k := range v.NumField() {
			told += whole(v.Field(k))
		}
	case reflect.Slice:
		told = fmt.Sprint(v.Len(), v.Cap(), ": ")
		for k := range v.Cap() {
			told += whole(v.Slice(0, v.Cap()).Index(k))
		}
	}
	return told
}

// askAll asks each function and tells all answers as one text.
func askAll(p *api.Program) string {
	all := fmt.Sprintf("%q %q %q", told(types.Bounds(p)), told(types.Names(p)), told(types.Check(p)))
	for f, fn := range p.Funcs {
		for _, b := range fn.Blocks {
			for _, i := range b.Code {
				all += fmt.Sprint(types.Fits(p, f, i), types.Fits(p, 0, i))
			}
		}
	}
	return all
}

// wrong are turns of great into programs that are refused, each for another reason.
func wrong() []func(p *api.Program) {
	return []func(p *api.Program){
		func(p *api.Program) { p.Impls = make([]api.Impl, 13) },
		func(p *api.Program) { p.Main = 9 },
		func(p *api.Program) { p.Funcs[main].Blocks[1].Code[2].Dst = 10 },
		func(p *api.Program) { p.Funcs[3].Regs[0] = ptr2 },
		func(p *api.Program) { p.Funcs[main].Blocks[2].Code[2].Args[0] = rP0 },
		func(p *api.Program) { p.Main = 1 },
	}
}

func TestWhatIsHandedInStays(t *testing.T) {
	for k, turn := range append(wrong(), func(*api.Program) {}) {
		p := roomy()
		turn(p)
		was := whole(reflect.ValueOf(*p))
		first := askAll(p)
		if got := whole(reflect.ValueOf(*p)); got != was {
			t.Errorf("P0.3: %d: the program became %s, it was %s", k, got, was)
		}
		if again := askAll(p); again != first {
			t.Errorf("P0.5: %d: asked again: %s, first %s", k, again, first)
		}
	}
}

// A nil list is the same as an empty one, wherever it stands.
func TestNilLists(t *testing.T) {
	for k, turn := range append(wrong(), func(*api.Program) {}) {
		p, q := great(), great()
		turn(p)
		turn(q)
		empty(reflect.ValueOf(p).Elem(), true)
		empty(reflect.ValueOf(q).Elem(), false)
		if askAll(p) != askAll(q) {
			t.Errorf("P0.4: %d: with nil lists %s, with empty ones %s", k, askAll(p), askAll(q))
		}
	}
}

// empty makes all lists of v that have no parts nil, or none of them.
func empty(v reflect.Value, nils bool) {
	switch {
	case v.Kind() == reflect.Struct:
		for k := range v.NumField() {
			empty(v.Field(k), nils)
		}
	case v.Kind() == reflect.Slice && v.Len() == 0 && nils:
		v.SetZero()
	case v.Kind() == reflect.Slice && v.Len() == 0:
		v.Set(reflect.MakeSlice(v.Type(), 0, 0))
	case v.Kind() == reflect.Slice:
		for k := range v.Len() {
			empty(v.Index(k), nils)
		}
	}
}

// The same program, changed between two calls: nothing of it is kept.
func TestNothingIsKept(t *testing.T) {
	p := great()
	right := askAll(p)
	for k, turn := range wrong() {
		turn(p)
		if askAll(p) == right {
			t.Errorf("P0.5: %d: the change is not seen", k)
		}
		*p = *great()
		if got := askAll(p); got != right {
			t.Errorf("P0.5: %d: changed back: %s", k, got)
		}
	}
}

// A refusal is open to who gets it: those of other calls stay as they were.
func TestRefusalsAreNewMemory(t *testing.T) {
	for k, turn := range wrong() {
		p := great()
		turn(p)
		for name, ask := range map[string]func(*api.Program) error{"Bounds": types.Bounds, "Names": types.Names, "Check": types.Check} {
			one, other := ask(p), ask(p)
			was := told(other)
			var x *refuse.Error
			if !errors.As(one, &x) {
				continue
			}
			*x = refuse.Error{Why: api.WhyShape, At: api.Point{F: 77}, Inner: other}
			if told(other) != was || told(ask(p)) != was {
				t.Errorf("P0.3: %d: who writes into a refusal of %s changes others", k, name)
			}
		}
	}
}

// A refusal keeps nothing of the program: who writes into that does not change it.
func TestRefusalsAreApartFromPrograms(t *testing.T) {
	for k, turn := range wrong() {
		p := great()
		turn(p)
		for name, ask := range map[string]func(*api.Program) error{"Bounds": types.Bounds, "Names": types.Names, "Check": types.Check} {
			q := great()
			turn(q)
			e := ask(q)
			for _, n := range numbers(reflect.ValueOf(q).Elem()) {
				n.SetInt(4321)
			}
			if told(e) != told(ask(p)) {
				t.Errorf("P0.3: %d: who writes into the program changes what %s answered to %q", k, name, told(e))
			}
		}
	}
}

func TestFitsLeavesArgs(t *testing.T) {
	room := []int{rNum, rP1, -7, -7}
	i := api.Instr{Op: api.OCall, Dst: rP0, N: 1, Args: room[:2]}
	if !types.Fits(great(), main, i) || !slices.Equal(room, []int{rNum, rP1, -7, -7}) {
		t.Errorf("P0.3: Args and their spare room became %v", room)
	}
	i.Op = api.OCopy
	types.Fits(great(), main, i)
	if !slices.Equal(room, []int{rNum, rP1, -7, -7}) {
		t.Errorf("P0.3: Args that do not count became %v", room)
	}
}
