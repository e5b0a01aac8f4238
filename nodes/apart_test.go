package nodes_test

import (
	"fmt"
	"reflect"
	"slices"
	"testing"

	"haruspex/api"
	"haruspex/nodes"
)

// tell tells all that a Table has, as a text.
func tell(n *nodes.Table) string {
	l := append([]int{n.Len()}, n.Sites()...)
	for f := -1; f <= api.MaxFuncs; f++ {
		l = append(l, n.Ret(f), n.Fun(f))
		for r := -1; r <= api.MaxRegs; r++ {
			l = append(l, n.Reg(f, r))
		}
	}
	for at := -1; at <= api.MaxPoints; at++ {
		l = append(l, n.Rec(at))
		for field := -1; field <= api.MaxFields; field++ {
			l = append(l, n.Cell(api.Cell{Site: at, Field: field}))
		}
	}
	text := fmt.Sprint(l)
	for o := -1; o <= api.MaxSites+api.MaxFuncs; o++ {
		x, site := n.Object(o)
		text += fmt.Sprint(x, site, " ")
	}
	return text
}

// several gives programs.
func several() []*api.Program {
	l := []*api.Program{{}, great(), great(), full(), base(api.Func{Blocks: forever()}), base(api.Func{})}
	d := dice(61)
	for range 20 {
		l = append(l, program(&d, api.MaxFuncs))
	}
	return l
}

// widen puts two parts, full of marks, behind the end of each list of v.
func widen(v reflect.Value) {
	switch v.Kind() {
	case reflect.Struct:
		for k := range v.NumField() {
			widen(v.Field(k))
		}
	case reflect.Slice:
		l := reflect.MakeSlice(v.Type(), v.Len()+2, v.Len()+2)
		reflect.Copy(l, v)
		for k := range l.Len() {
			widen(l.Index(k))
		}
		for _, n := range numbers(l.Slice(v.Len(), l.Len())) {
			n.SetInt(-7)
		}
		v.Set(l.Slice(0, v.Len()))
	}
}

// whole tells all of v, its lists' spare room too.
func whole(v reflect.Value) string {
	text := ""
	switch v.Kind() {
	case reflect.Int:
		return fmt.Sprint(v.Int(), " ")
	case reflect.Struct:
		for k := range v.NumField() {
			text += whole(v.Field(k))
		}
	case reflect.Slice:
		text = fmt.Sprint(v.Len(), v.Cap(), ": ")
		for k := range v.Cap() {
			text += whole(v.Slice(0, v.Cap()).Index(k))
		}
	}
	return text
}

func TestWhatIsHandedInStays(t *testing.T) {
	for k, p := range several() {
		plain := tell(nodes.New(p))
		widen(reflect.ValueOf(p).Elem())
		was := whole(reflect.ValueOf(*p))
		if got := tell(nodes.New(p)); got != plain {
			t.Errorf("P0.5: %d: with spare room %s, without %s", k, got, plain)
		}
		if got := whole(reflect.ValueOf(*p)); got != was {
			t.Errorf("P0.3: %d: the program became %s, it was %s", k, got, was)
		}
	}
}

// scrawl writes into all numbers of v, its lists' spare room too, and then takes its lists away.
func scrawl(v reflect.Value, n int64) {
	switch v.Kind() {
	case reflect.Int:
		v.SetInt(n)
	case reflect.Struct:
		for k := range v.NumField() {
			scrawl(v.Field(k), n)
		}
	case reflect.Slice:
		for k := range v.Cap() {
			scrawl(v.Slice(0, v.Cap()).Index(k), n)
		}
		v.SetZero()
	}
}

// Who writes into the program changes no Table that was made of it.
func TestNothingHandedInIsKept(t *testing.T) {
	for k, p := range several() {
		n := nodes.New(p)
		was := tell(n)
		for _, x := range []int64{4321, 0, -1} {
			scrawl(reflect.ValueOf(p).Elem(), x)
			if got := tell(n); got != was {
				t.Errorf("P0.3: %d: who writes into the program changes %s to %s", k, was, got)
			}
		}
	}
}

// Who writes into an answer, its spare room too, changes no other one, and not the Table.
func TestAnswersAreNewMemory(t *testing.T) {
	for k, p := range several() {
		n, other := nodes.New(p), nodes.New(p)
		was, l := tell(n), n.Sites()
		for _, x := range [][]int{n.Sites(), other.Sites()} {
			x = x[:cap(x)]
			for k := range x {
				x[k] = -9
			}
		}
		if got := tell(n); got != was || !slices.Equal(l, n.Sites()) {
			t.Errorf("P0.3: %d: who writes into an answer changes %s to %s", k, was, got)
		}
		if got := tell(other); got != was {
			t.Errorf("P0.3: %d: who writes into an answer changes another Table from %s to %s", k, was, got)
		}
	}
}

// What is asked in between, of the same Table and of others, changes nothing.
func TestAskedAgain(t *testing.T) {
	programs := several()
	var tables []*nodes.Table
	var was []string
	for _, p := range programs {
		tables = append(tables, nodes.New(p))
		was = append(was, tell(nodes.New(p)))
	}
	for k := range tables {
		k = len(tables) - 1 - k
		if one, other := tell(tables[k]), tell(nodes.New(programs[k])); one != was[k] || other != was[k] {
			t.Errorf("P0.5: %d: asked again %s and %s, it was %s", k, one, other, was[k])
		}
	}
}

// empty makes all lists of v that have no parts nil, or none of them.
func empty(v reflect.Value, nils bool) {
	switch {
	case v.Kind() == reflect.Struct:
		for k := range v.NumField() {
			empty(v.Field(k), nils)
		}
	case v.Kind() == reflect.Slice && v.Len() == 0 && nils:
		v.SetZero()
	case v.Kind() == reflect.Slice && v.Len() == 0:
		v.Set(reflect.MakeSlice(v.Type(), 0, 0))
	case v.Kind() == reflect.Slice:
		for k := range v.Len() {
			empty(v.Index(k), nils)
		}
	}
}

func TestNilLists(t *testing.T) {
	for k, p := range several() {
		empty(reflect.ValueOf(p).Elem(), true)
		one := tell(nodes.New(p))
		empty(reflect.ValueOf(p).Elem(), false)
		if other := tell(nodes.New(p)); one != other {
			t.Errorf("P0.4: %d: with nil lists %s, with empty ones %s", k, one, other)
		}
	}
}
