package wf_test

import (
	"bytes"
	"fmt"
	"reflect"
	"testing"

	"haruspex/api"
	"haruspex/refuse"
	"haruspex/wf"
)

// widen puts two parts, full of marks, behind the end of each list of v.
func widen(v reflect.Value) {
	switch v.Kind() {
	case reflect.Struct:
		for k := range v.NumField() {
			widen(v.Field(k))
		}
	case reflect.Slice:
		l := reflect.MakeSlice(v.Type(), v.Len()+2, v.Len()+2)
		reflect.Copy(l, v)
		for k := range l.Len() {
			widen(l.Index(k))
		}
		for _, n := range numbers(l.Slice(v.Len(), l.Len())) {
			n.SetInt(-7)
		}
		v.Set(l.Slice(0, v.Len()))
	}
}

// whole tells all of v, its lists' spare room too.
func whole(v reflect.Value) string {
	text := ""
	switch v.Kind() {
	case reflect.Int:
		return fmt.Sprint(v.Int(), " ")
	case reflect.Struct:
		for k := range v.NumField() {
			text += whole(v.Field(k))
		}
	case reflect.Slice:
		text = fmt.Sprint(v.Len(), v.Cap(), ": ")
		for k := range v.Cap() {
			text += whole(v.Slice(0, v.Cap()).Index(k))
		}
	}
	return text
}

// askAll asks Methods and Check and tells both answers as one text.
func askAll(p *api.Program) string {
	return fmt.Sprintf("%q %q", told(wf.Methods(p)), told(wf.Check(p)))
}

func TestWhatIsHandedInStays(t *testing.T) {
	for _, x := range append(faults(), turned{"right", func(*api.Program) {}, ""}) {
		p := great()
		x.turn(p)
		plain := askAll(p)
		widen(reflect.ValueOf(p).Elem())
		was := whole(reflect.ValueOf(*p))
		if got := askAll(p); got != plain {
			t.Errorf("P0.5: %s: with spare room %s, without %s", x.name, got, plain)
		}
		if got := whole(reflect.ValueOf(*p)); got != was {
			t.Errorf("P0.3: %s: the program became %s, it was %s", x.name, got, was)
		}
		if again := askAll(p); again != plain {
			t.Errorf("P0.5: %s: asked again: %s, first %s", x.name, again, plain)
		}
	}
}

// empty makes all lists of v that have no parts nil, or none of them.
func empty(v reflect.Value, nils bool) {
	switch {
	case v.Kind() == reflect.Struct:
		for k := range v.NumField() {
			empty(v.Field(k), nils)
		}
	case v.Kind() == reflect.Slice && v.Len() == 0 && nils:
		v.SetZero()
	case v.Kind() == reflect.Slice && v.Len() == 0:
		v.Set(reflect.MakeSlice(v.Type(), 0, 0))
	case v.Kind() == reflect.Slice:
		for k := range v.Len() {
			empty(v.Index(k), nils)
		}
	}
}

func TestNilLists(t *testing.T) {
	for _, x := range append(faults(), turned{"right", func(*api.Program) {}, ""}) {
		p, q := great(), great()
		x.turn(p)
		x.turn(q)
		empty(reflect.ValueOf(p).Elem(), true)
		empty(reflect.ValueOf(q).Elem(), false)
		if askAll(p) != askAll(q) {
			t.Errorf("P0.4: %s: with nil lists %s, with empty ones %s", x.name, askAll(p), askAll(q))
		}
	}
}

// The same program, changed between two calls: nothing of it is kept.
func TestNothingIsKept(t *testing.T) {
	p := great()
	right := askAll(p)
	for _, x := range faults() {
		x.turn(p)
		if askAll(p) == right {
			t.Errorf("P0.5: %s: the change is not seen", x.name)
		}
		*p = *great()
		if got := askAll(p); got != right {
			t.Errorf("P0.5: %s: changed back: %s", x.name, got)
		}
	}
}

// spoil writes into a refusal and into all that it wraps.
func spoil(err error) {
	for err != nil {
		e, ok := err.(*refuse.Error)
		if !ok {
			return
		}
		err = e.Inner
		*e = refuse.Error{Why: 77, At: api.Point{F: 77}}
	}
}

// A refusal and what it wraps are open to who gets them: those of other calls stay as they were.
func TestRefusalsAreNewMemory(t *testing.T) {
	load := func(p *api.Program) error {
		if p == nil {
			_, err := wf.Load(nil)
			return err
		}
		_, err := wf.Load(encoded(t, p))
		return err
	}
	for _, x := range append(faults(), turned{"no program", nil, ""}) {
		var p *api.Program
		if x.turn != nil {
			p = great()
			x.turn(p)
		}
		for name, ask := range map[string]func(*api.Program) error{"Check": wf.Check, "Methods": wf.Methods, "Load": load} {
			one, other := ask(p), ask(p)
			was := told(other)
			spoil(one)
			if told(other) != was || told(ask(p)) != was {
				t.Errorf("P0.3: %s: who writes into a refusal of %s changes others", x.name, name)
			}
		}
	}
}

// A refusal keeps nothing of the program.
func TestRefusalsAreApartFromPrograms(t *testing.T) {
	for _, x := range faults() {
		p := great()
		x.turn(p)
		check, methods := wf.Check(p), wf.Methods(p)
		was := told(check) + told(methods)
		for _, n := range numbers(reflect.ValueOf(p).Elem()) {
			n.SetInt(4321)
		}
		if got := told(check) + told(methods); got != was {
			t.Errorf("P0.3: %s: who writes into the program changes %s to %s", x.name, was, got)
		}
	}
}

// scrawl writes into all numbers of v, its lists' spare room too.
func scrawl(v reflect.Value) {
	switch v.Kind() {
	case reflect.Int:
		v.SetInt(4321)
	case reflect.Struct:
		for k := range v.NumField() {
			scrawl(v.Field(k))
		}
	case reflect.Slice:
		for k := range v.Cap() {
			scrawl(v.Slice(0, v.Cap()).Index(k))
		}
	}
}

func TestLoadIsNewMemory(t *testing.T) {
	room := append(encoded(t, great()), "spare room"...)
	was := bytes.Clone(room)
	b := room[:len(room)-len("spare room")]
	one, err := wf.Load(b)
	other, again := wf.Load(b)
	if err != nil || again != nil || !bytes.Equal(room, was) {
		t.Fatalf("P0.3: the bytes became %x, %v, %v", room, err, again)
	}
	scrawl(reflect.ValueOf(one).Elem())
	if !same(other, great()) || !bytes.Equal(room, was) {
		t.Error("P0.3: who writes into what Load answers changes others")
	}
	if p, err := wf.Load(b); err != nil || !same(p, great()) {
		t.Errorf("P0.5: asked again: %+v, %v", p, err)
	}
	clear(room)
	if !same(other, great()) {
		t.Error("P0.3: who writes into the bytes changes what Load answered")
	}
}
