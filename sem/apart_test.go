package sem_test

import (
	"fmt"
	"reflect"
	"slices"
	"strings"
	"testing"

	"haruspex/api"
	"haruspex/sem"
)

// state tells all that a machine tells.
func state(m *sem.Machine) string {
	text := fmt.Sprintln(m.At(), m.Depth(), m.Called(), m.Sunk(), m.Result(), registers(m))
	if h := m.Heap(); h != nil {
		text += heapText(h)
	}
	return text
}

const most = 150 // steps of a run that is told

// tell runs the machine and tells all that it tells.
func tell(m *sem.Machine) string {
	text := []string{state(m)}
	for why, n := 0, 0; why == 0 && n < most; n++ {
		why = m.Step()
		text = append(text, fmt.Sprint(why, ": ", state(m)))
	}
	return strings.Join(text, "")
}

// several gives programs, each with numbers from without.
func several() ([]*api.Program, [][]int64) {
	programs := []*api.Program{nil, {}, great(), great(), deep(70, api.OCallI), base(nil)}
	oracles := [][]int64{nil, {1}, {1, 2}, nil, nil, {4}}
	d := dice(41)
	for range 30 {
		programs = append(programs, program(&d))
		oracles = append(oracles, oracle(&d))
	}
	return programs, oracles
}

// widen puts two parts, full of marks, behind the end of each list of v.
func widen(v reflect.Value) {
	switch v.Kind() {
	case reflect.Struct:
		for k := range v.NumField() {
			widen(v.Field(k))
		}
	case reflect.Slice:
		l := reflect.MakeSlice(v.Type(), v.Len()+2, v.Len()+2)
		reflect.Copy(l, v)
		for k := range l.Len() {
			widen(l.Index(k))
		}
		for _, n := range numbers(l.Slice(v.Len(), l.Len())) {
			n.SetInt(-7)
		}
		v.Set(l.Slice(0, v.Len()))
	}
}

// whole tells all of v, its lists' spare room too.
func whole(v reflect.Value) string {
	text := ""
	switch v.Kind() {
	case reflect.Int:
		return fmt.Sprint(v.Int(), " ")
	case reflect.Struct:
		for k := range v.NumField() {
			text += whole(v.Field(k))
		}
	case reflect.Slice:
		text = fmt.Sprint(v.Len(), v.Cap(), ": ")
		for k := range v.Cap() {
			text += whole(v.Slice(0, v.Cap()).Index(k))
		}
	}
	return text
}

// scrawl writes into all numbers of v, its lists' spare room too, and then takes its lists away.
func scrawl(v reflect.Value, n int64) {
	switch v.Kind() {
	case reflect.Int:
		v.SetInt(n)
	case reflect.Struct:
		for k := range v.NumField() {
			scrawl(v.Field(k), n)
		}
	case reflect.Slice:
		for k := range v.Cap() {
			scrawl(v.Slice(0, v.Cap()).Index(k), n)
		}
		v.SetZero()
	}
}

func TestWhatIsHandedInStays(t *testing.T) {
	programs, oracles := several()
	for k, p := range programs {
		if p == nil {
			continue
		}
		plain := tell(sem.New(p, oracles[k]))
		widen(reflect.ValueOf(p).Elem())
		room := append(slices.Clone(oracles[k]), 77, 78)
		was, numbers := whole(reflect.ValueOf(*p)), slices.Clone(room)
		if got := tell(sem.New(p, room[:len(room)-2])); got != plain {
			t.Errorf("P0.5: %d: with spare room %s, without %s", k, got, plain)
		}
		if got := whole(reflect.ValueOf(*p)); got != was || !slices.Equal(room, numbers) {
			t.Errorf("P0.3: %d: the program became %s and %v, it was %s and %v", k, got, room, was, numbers)
		}
	}
}

// Who writes into the program or into the numbers from without turns no run that has begun, at whatever step.
func TestNothingHandedInIsKept(t *testing.T) {
	for _, steps := range []int{0, 1, 9, 12, 20} {
		programs, oracles := several()
		for k, p := range programs {
			if p == nil {
				continue
			}
			one, other := sem.New(p, oracles[k]), sem.New(p, oracles[k])
			for range steps {
				one.Step()
				other.Step()
			}
			want := tell(one)
			for _, n := range []int64{4321, 0, -1} {
				scrawl(reflect.ValueOf(p).Elem(), n)
			}
			for n := range oracles[k] {
				oracles[k][n] = 99
			}
			if got := tell(other); got != want {
				t.Errorf("P0.3: %d, behind step %d: who writes into the program changes %s to %s", k, steps, want, got)
			}
		}
	}
}

// What Heap gives is the caller's: it changes nothing of the run, and the run nothing of it.
func TestHeapIsNewMemory(t *testing.T) {
	programs, oracles := several()
	for k, p := range programs {
		want := tell(sem.New(p, oracles[k]))
		m := sem.New(p, oracles[k])
		got := state(m)
		for why, n := 0, 0; why == 0 && n < most; n++ {
			h, other := m.Heap(), m.Heap()
			was := ""
			if other != nil {
				was = heapText(other)
			}
			for o := int64(1); o <= int64(h.Len()); o++ {
				for field := range api.MaxFields {
					h.Set(o, field, api.Value{Kind: api.VPtr, N: 7, Taint: true})
				}
				if o%2 == 1 {
					h.Free(o)
				}
			}
			if n%50 == 0 {
				for h.Alloc(3, nil) > 0 {
				}
			}
			why = m.Step()
			got += fmt.Sprint(why, ": ", state(m))
			if other != nil && heapText(other) != was {
				t.Fatalf("P0.3: %d: a step, or another answer, changed %s to %s", k, was, heapText(other))
			}
		}
		if got != want {
			t.Errorf("P0.3: %d: who writes into the heap changes %s to %s", k, want, got)
		}
	}
}

// Runs of one program, step by step in turn, hang on nothing of each other; asking changes nothing.
func TestMachinesAreApart(t *testing.T) {
	programs, oracles := several()
	for k, p := range programs {
		want := tell(sem.New(p, oracles[k]))
		one, other, third := sem.New(p, oracles[k]), sem.New(p, append([]int64{3}, oracles[k]...)), sem.New(p, oracles[k])
		got := state(one)
		for why, n := 0, 0; why == 0 && n < most; n++ {
			other.Step()
			why = one.Step()
			other.Step()
			for range 2 {
				state(other)
				state(one)
			}
			if third.Step() != why {
				t.Fatalf("P0.5: %d: who asks less is told otherwise", k)
			}
			got += fmt.Sprint(why, ": ", state(one))
		}
		if got != want || state(third) != state(one) {
			t.Errorf("P0.5: %d: beside others %s, alone %s", k, got, want)
		}
	}
}

// empty makes all lists of v that have no parts nil, or none of them.
func empty(v reflect.Value, nils bool) {
	switch {
	case v.Kind() == reflect.Struct:
		for k := range v.NumField() {
			empty(v.Field(k), nils)
		}
	case v.Kind() == reflect.Slice && v.Len() == 0 && nils:
		v.SetZero()
	case v.Kind() == reflect.Slice && v.Len() == 0:
		v.Set(reflect.MakeSlice(v.Type(), 0, 0))
	case v.Kind() == reflect.Slice:
		for k := range v.Len() {
			empty(v.Index(k), nils)
		}
	}
}

func TestNilLists(t *testing.T) {
	programs, oracles := several()
	for k, p := range programs {
		if p == nil {
			continue
		}
		empty(reflect.ValueOf(p).Elem(), true)
		one := tell(sem.New(p, oracles[k]))
		empty(reflect.ValueOf(p).Elem(), false)
		if other := tell(sem.New(p, append([]int64{}, oracles[k]...))); one != other {
			t.Errorf("P0.4: %d: with nil lists %s, with empty ones %s", k, one, other)
		}
		if one, other := tell(sem.New(p, nil)), tell(sem.New(p, []int64{})); one != other {
			t.Errorf("P0.4: %d: with no oracle %s, with an empty one %s", k, one, other)
		}
	}
}
