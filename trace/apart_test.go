package trace_test

import (
	"fmt"
	"reflect"
	"slices"
	"testing"

	"haruspex/api"
	"haruspex/trace"
)

// asked is all that is told of one run.
type asked struct {
	events []trace.Event
	steps  int
	why    int
	alarms []api.Alarm
	calls  []api.Edge
}

func ask(p *api.Program, oracle []int64, fuel int) asked {
	events, steps, why := trace.Run(p, oracle, fuel)
	return asked{events, steps, why, trace.Alarms(p, oracle, fuel), trace.Calls(p, oracle, fuel)}
}

// tell tells it as a text.
func tell(p *api.Program, oracle []int64, fuel int) string { return fmt.Sprint(ask(p, oracle, fuel)) }

// several gives programs, each with numbers from without.
func several() ([]*api.Program, [][]int64) {
	programs := []*api.Program{nil, {}, great(), great(), backwards(), base(nil)}
	oracles := [][]int64{nil, {1}, {1, 2}, nil, {0, 1}, {4}}
	d := dice(41)
	for range 30 {
		programs = append(programs, program(&d))
		oracles = append(oracles, oracle(&d))
	}
	return programs, oracles
}

// widen puts two parts, full of marks, behind the end of each list of v.
func widen(v reflect.Value) {
	switch v.Kind() {
	case reflect.Struct:
		for k := range v.NumField() {
			widen(v.Field(k))
		}
	case reflect.Slice:
		l := reflect.MakeSlice(v.Type(), v.Len()+2, v.Len()+2)
		reflect.Copy(l, v)
		for k := range l.Len() {
			widen(l.Index(k))
		}
		for _, n := range numbers(l.Slice(v.Len(), l.Len())) {
			n.SetInt(-7)
		}
		v.Set(l.Slice(0, v.Len()))
	}
}

// whole tells all of v, its lists' spare room too.
func whole(v reflect.Value) string {
	text := ""
	switch v.Kind() {
	case reflect.Int:
		return fmt.Sprint(v.Int(), " ")
	case reflect.Struct:
		for k := range v.NumField() {
			text += whole(v.Field(k))
		}
	case reflect.Slice:
		text = fmt.Sprint(v.Len(), v.Cap(), ": ")
		for k := range v.Cap() {
			text += whole(v.Slice(0, v.Cap()).Index(k))
		}
	}
	return text
}

func TestWhatIsHandedInStays(t *testing.T) {
	programs, oracles := several()
	for k, p := range programs {
		if p == nil {
			continue
		}
		plain := tell(p, oracles[k], 300)
		widen(reflect.ValueOf(p).Elem())
		room := append(slices.Clone(oracles[k]), 77, 78)
		was, numbers := whole(reflect.ValueOf(*p)), slices.Clone(room)
		if got := tell(p, room[:len(room)-2], 300); got != plain {
			t.Errorf("P0.5: %d: with spare room %s, without %s", k, got, plain)
		}
		if got := whole(reflect.ValueOf(*p)); got != was || !slices.Equal(room, numbers) {
			t.Errorf("P0.3: %d: the program became %s and %v, it was %s and %v", k, got, room, was, numbers)
		}
	}
}

// scrawl writes into all numbers of v, its lists' spare room too, and then takes its lists away.
func scrawl(v reflect.Value, n int64) {
	switch v.Kind() {
	case reflect.Int:
		v.SetInt(n)
	case reflect.Struct:
		for k := range v.NumField() {
			scrawl(v.Field(k), n)
		}
	case reflect.Slice:
		for k := range v.Cap() {
			scrawl(v.Slice(0, v.Cap()).Index(k), n)
		}
		v.SetZero()
	}
}

// Who writes into the program or into the numbers from without changes no answer.
func TestNothingHandedInIsKept(t *testing.T) {
	programs, oracles := several()
	for k, p := range programs {
		if p == nil {
			continue
		}
		l := ask(p, oracles[k], 300)
		was := fmt.Sprint(l)
		for _, n := range []int64{4321, 0, -1} {
			scrawl(reflect.ValueOf(p).Elem(), n)
		}
		for n := range oracles[k] {
			oracles[k][n] = 99
		}
		if got := fmt.Sprint(l); got != was {
			t.Errorf("P0.3: %d: who writes into the program changes %s to %s", k, was, got)
		}
	}
}

// Who writes into an answer, its spare room too, changes no other one.
func TestAnswersAreNewMemory(t *testing.T) {
	programs, oracles := several()
	for k, p := range programs {
		one, other := ask(p, oracles[k], 300), ask(p, oracles[k], 300)
		was := fmt.Sprint(other)
		events, list, edges := one.events[:cap(one.events)], one.alarms[:cap(one.alarms)], one.calls[:cap(one.calls)]
		for n := range events {
			events[n] = trace.Event{At: -9, Kind: -9, N: -9}
		}
		for n := range list {
			list[n] = api.Alarm{Kind: -9, At: -9}
		}
		for n := range edges {
			edges[n] = api.Edge{At: -9, To: -9}
		}
		if got := fmt.Sprint(other); got != was {
			t.Errorf("P0.3: %d: who writes into one answer changes another from %s to %s", k, was, got)
		}
		if got := tell(p, oracles[k], 300); got != was {
			t.Errorf("P0.5: %d: asked again %s, it was %s", k, got, was)
		}
	}
}

// What is asked in between, of the same program and of others, changes nothing.
func TestAskedAgain(t *testing.T) {
	programs, oracles := several()
	var was []string
	for k, p := range programs {
		was = append(was, tell(p, oracles[k], 300))
	}
	for k := range programs {
		k = len(programs) - 1 - k
		tell(programs[k], []int64{7, 0}, 40)
		if got := tell(programs[k], oracles[k], 300); got != was[k] {
			t.Errorf("P0.5: %d: asked again %s, it was %s", k, got, was[k])
		}
	}
}

// empty makes all lists of v that have no parts nil, or none of them.
func empty(v reflect.Value, nils bool) {
	switch {
	case v.Kind() == reflect.Struct:
		for k := range v.NumField() {
			empty(v.Field(k), nils)
		}
	case v.Kind() == reflect.Slice && v.Len() == 0 && nils:
		v.SetZero()
	case v.Kind() == reflect.Slice && v.Len() == 0:
		v.Set(reflect.MakeSlice(v.Type(), 0, 0))
	case v.Kind() == reflect.Slice:
		for k := range v.Len() {
			empty(v.Index(k), nils)
		}
	}
}

func TestNilLists(t *testing.T) {
	programs, oracles := several()
	for k, p := range programs {
		if p == nil {
			continue
		}
		empty(reflect.ValueOf(p).Elem(), true)
		one := tell(p, oracles[k], 300)
		empty(reflect.ValueOf(p).Elem(), false)
		if other := tell(p, append([]int64{}, oracles[k]...), 300); one != other {
			t.Errorf("P0.4: %d: with nil lists %s, with empty ones %s", k, one, other)
		}
		if one, other := tell(p, nil, 300), tell(p, []int64{}, 300); one != other {
			t.Errorf("P0.4: %d: with no oracle %s, with an empty one %s", k, one, other)
		}
	}
}
