package gen_test

import (
	"fmt"
	"reflect"
	"testing"

	"haruspex/api"
	"haruspex/gen"
	"haruspex/ir"
)

// ask gives the rules of all functions of p, then those of some calls.
func ask(p *api.Program) [][]gen.Rule {
	var l [][]gen.Rule
	n := 9
	if p != nil {
		n = len(p.Funcs)
	}
	for f := -1; f <= n; f++ {
		l = append(l, gen.Of(p, f))
	}
	for at := range ir.Points(p) {
		if i, ok := ir.At(p, at); ok && i.Op >= api.OCall && i.Op <= api.OCallI {
			l = append(l, gen.Call(p, at, i.N), gen.Call(p, at, second))
		}
	}
	return l
}

// tell tells them as a text.
func tell(p *api.Program) string { return fmt.Sprint(ask(p)) }

// several gives programs.
func several() []*api.Program {
	l := []*api.Program{{}, great(), great(), one(), base(nil)}
	d := dice(61)
	for range 20 {
		l = append(l, program(&d))
	}
	return l
}

// widen puts two parts, full of marks, behind the end of each list of v.
func widen(v reflect.Value) {
	switch v.Kind() {
	case reflect.Struct:
		for k := range v.NumField() {
			widen(v.Field(k))
		}
	case reflect.Slice:
		l := reflect.MakeSlice(v.Type(), v.Len()+2, v.Len()+2)
		reflect.Copy(l, v)
		for k := range l.Len() {
			widen(l.Index(k))
		}
		for _, n := range numbers(l.Slice(v.Len(), l.Len())) {
			n.SetInt(-7)
		}
		v.Set(l.Slice(0, v.Len()))
	}
}

// whole tells all of v, its lists' spare room too.
func whole(v reflect.Value) string {
	text := ""
	switch v.Kind() {
	case reflect.Int:
		return fmt.Sprint(v.Int(), " ")
	case reflect.Struct:
		for k := range v.NumField() {
			text += whole(v.Field(k))
		}
	case reflect.Slice:
		text = fmt.Sprint(v.Len(), v.Cap(), ": ")
		for k := range v.Cap() {
			text += whole(v.Slice(0, v.Cap()).Index(k))
		}
	}
	return text
}

func TestWhatIsHandedInStays(t *testing.T) {
	for k, p := range several() {
		plain := tell(p)
		widen(reflect.ValueOf(p).Elem())
		was := whole(reflect.ValueOf(*p))
		if got := tell(p); got != plain {
			t.Errorf("P0.5: %d: with spare room %s, without %s", k, got, plain)
		}
		if got := whole(reflect.ValueOf(*p)); got != was {
			t.Errorf("P0.3: %d: the program became %s, it was %s", k, got, was)
		}
	}
}

// scrawl writes into all numbers of v, its lists' spare room too, and then takes its lists away.
func scrawl(v reflect.Value, n int64) {
	switch v.Kind() {
	case reflect.Int:
		v.SetInt(n)
	case reflect.Struct:
		for k := range v.NumField() {
			scrawl(v.Field(k), n)
		}
	case reflect.Slice:
		for k := range v.Cap() {
			scrawl(v.Slice(0, v.Cap()).Index(k), n)
		}
		v.SetZero()
	}
}

// Who writes into the program changes no rule that was told, and asked again it is told as it is then.
func TestNothingHandedInIsKept(t *testing.T) {
	for k, p := range several() {
		rules := ask(p)
		was := fmt.Sprint(rules)
		for _, x := range []int64{4321, 0, -1} {
			scrawl(reflect.ValueOf(p).Elem(), x)
			if got := fmt.Sprint(rules); got != was {
				t.Errorf("P0.3: %d: who writes into the program changes %s to %s", k, was, got)
			}
			isNone(t, p)
		}
		*p = *great()
		if got, want := tell(p), tell(great()); got != want {
			t.Errorf("P0.5: %d: of the changed program %s, want %s", k, got, want)
		}
	}
}

// Who writes into an answer, or a list of it, spare room too, changes nothing else of that answer, no other answer, and
// not the program.
func TestAnswersAreNewMemory(t *testing.T) {
	for k, p := range several() {
		is, other := whole(reflect.ValueOf(*p)), ask(p)
		was := fmt.Sprint(other)
		for n, rules := range ask(p) {
			for r := range rules {
				args := rules[r].Args
				rules[r].Args = nil
				rest := fmt.Sprint(rules)
				scrawl(reflect.ValueOf(&args).Elem(), -9)
				if got := fmt.Sprint(rules); got != rest {
					t.Errorf("P0.3: %d: who writes into the arguments of %d changes %s to %s", k, n, rest, got)
				}
			}
			scrawl(reflect.ValueOf(&rules).Elem(), -9)
		}
		if got := fmt.Sprint(other); got != was {
			t.Errorf("P0.3: %d: who writes into an answer changes another from %s to %s", k, was, got)
		}
		if got := whole(reflect.ValueOf(*p)); got != is || tell(p) != was {
			t.Errorf("P0.3: %d: who writes into an answer changes the program from %s to %s", k, is, got)
		}
	}
}

// What is asked in between, of the same program and of others, changes nothing.
func TestAskedAgain(t *testing.T) {
	programs := several()
	var was []string
	for _, p := range programs {
		was = append(was, tell(p))
	}
	for k := range programs {
		k = len(programs) - 1 - k
		if got := tell(programs[k]); got != was[k] {
			t.Errorf("P0.5: %d: asked again %s, it was %s", k, got, was[k])
		}
	}
}

// empty makes all lists of v that have no parts nil, or none of them.
func empty(v reflect.Value, nils bool) {
	switch {
	case v.Kind() == reflect.Struct:
		for k := range v.NumField() {
			empty(v.Field(k), nils)
		}
	case v.Kind() == reflect.Slice && v.Len() == 0 && nils:
		v.SetZero()
	case v.Kind() == reflect.Slice && v.Len() == 0:
		v.Set(reflect.MakeSlice(v.Type(), 0, 0))
	case v.Kind() == reflect.Slice:
		for k := range v.Len() {
			empty(v.Index(k), nils)
		}
	}
}

func TestNilLists(t *testing.T) {
	for k, p := range several() {
		empty(reflect.ValueOf(p).Elem(), true)
		one := tell(p)
		empty(reflect.ValueOf(p).Elem(), false)
		if other := tell(p); one != other {
			t.Errorf("P0.4: %d: with nil lists %s, with empty ones %s", k, one, other)
		}
	}
}
