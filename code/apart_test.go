package code_test

import (
	"bytes"
	"errors"
	"fmt"
	"reflect"
	"testing"

	"haruspex/api"
	"haruspex/code"
	"haruspex/refuse"
)

// roomy gives a program whose lists have spare room, full of marks.
func roomy() *api.Program {
	d := dice(7)
	p := &api.Program{}
	mark(&d, reflect.ValueOf(p).Elem())
	return p
}

// mark makes lists of two parts, and of two more in their spare room.
func mark(d *dice, v reflect.Value) {
	switch v.Kind() {
	case reflect.Int:
		v.SetInt(int64(d.number()))
	case reflect.Struct:
		for k := range v.NumField() {
			mark(d, v.Field(k))
		}
	case reflect.Slice:
		l := reflect.MakeSlice(v.Type(), 4, 4)
		for k := range l.Len() {
			mark(d, l.Index(k))
		}
		v.Set(l.Slice(0, 2))
	}
}

// whole tells all of v, its lists' spare room too.
func whole(v reflect.Value) string {
	told := ""
	switch v.Kind() {
	case reflect.Int:
		return fmt.Sprint(v.Int(), " ")
	case reflect.Struct:
		for k := range v.NumField() {
			told += whole(v.Field(k))
		}
	case reflect.Slice:
		told = fmt.Sprint(v.Len(), v.Cap(), ": ")
		for k := range v.Cap() {
			told += whole(v.Slice(0, v.Cap()).Index(k))
		}
	}
	return told
}

// scrawl writes into all numbers of v, its lists' spare room too: into each place once, a number of its own.
func scrawl(v reflect.Value, next *int64) {
	switch v.Kind() {
	case reflect.Int:
		*next++
		v.SetInt(*next)
	case reflect.Struct:
		for k := range v.NumField() {
			scrawl(v.Field(k), next)
		}
	case reflect.Slice:
		for k := range v.Cap() {
			scrawl(v.Slice(0, v.Cap()).Index(k), next)
		}
	}
}

func TestEncodeLeavesTheProgram(t *testing.T) {
	p := roomy()
	was := whole(reflect.ValueOf(*p))
	one, err := code.Encode(p)
	if err != nil || whole(reflect.ValueOf(*p)) != was {
		t.Fatalf("P0.3: the program has changed: %v", err)
	}
	other, _ := code.Encode(p)
	if !bytes.Equal(one, other) || !bytes.Equal(one, modelEncode(p)) {
		t.Errorf("P0.5: asked again: %x, first %x", other, one)
	}
	clear(one[:cap(one)])
	if whole(reflect.ValueOf(*p)) != was || !bytes.Equal(other, modelEncode(p)) {
		t.Error("P0.3: who writes into what Encode answers changes others")
	}
	told := bytes.Clone(other[:cap(other)])
	scrawl(reflect.ValueOf(p).Elem(), new(int64))
	if !bytes.Equal(other[:cap(other)], told) {
		t.Error("P0.3: who writes into the program changes what Encode answered")
	}
	if b, err := code.Encode(p); err != nil || !bytes.Equal(b, modelEncode(p)) {
		t.Errorf("P0.5: of the changed program: %x, %v", b, err)
	}
}

func TestDecodeLeavesTheBytes(t *testing.T) {
	want := roomy()
	b := append(modelEncode(want), "spare room"...)
	was := bytes.Clone(b)
	n := len(b) - len("spare room")
	one, err := code.Decode(b[:n])
	other, _ := code.Decode(b[:n])
	if err != nil || !bytes.Equal(b, was) {
		t.Fatalf("P0.3: the bytes became %x, %v", b, err)
	}
	if !same(one, want) || !same(other, want) {
		t.Errorf("P0.5: asked again: %+v, first %+v", other, one)
	}
	scrawl(reflect.ValueOf(one).Elem(), new(int64))
	if !bytes.Equal(b, was) || !same(other, want) {
		t.Error("P0.3: who writes into what Decode answers changes others")
	}
	clear(b)
	if !same(other, want) {
		t.Error("P0.3: who writes into the bytes changes what Decode answered")
	}
}

// places counts how often each place of a number lies in v, its lists' spare room too.
func places(v reflect.Value, times map[uintptr]int) {
	switch v.Kind() {
	case reflect.Int:
		times[v.Addr().Pointer()]++
	case reflect.Struct:
		for k := range v.NumField() {
			places(v.Field(k), times)
		}
	case reflect.Slice:
		for k := range v.Cap() {
			places(v.Slice(0, v.Cap()).Index(k), times)
		}
	}
}

func TestListsOfOneAnswerAreApart(t *testing.T) {
	p, err := code.Decode(modelEncode(roomy()))
	if err != nil {
		t.Fatal(err)
	}
	times := make(map[uintptr]int)
	places(reflect.ValueOf(p).Elem(), times)
	for _, n := range times {
		if n != 1 {
			t.Fatalf("P0.3: %d lists of one answer share a place", n)
		}
	}
}

// A refusal is open to who gets it: those of other calls stay as they were.
func TestRefusalsAreNewMemory(t *testing.T) {
	for name, ask := range map[string]func() error{
		"Encode":                 func() error { _, err := code.Encode(nil); return err },
		"Decode":                 func() error { _, err := code.Decode(nil); return err },
		"Decode of spoilt bytes": func() error { _, err := code.Decode([]byte{128, 0}); return err },
	} {
		one, other := ask(), ask()
		var x *refuse.Error
		if !errors.As(one, &x) {
			t.Fatalf("P9.1: %s: %v", name, one)
		}
		*x = refuse.Error{Why: api.WhyType, Inner: other}
		if !refused(other) || !refused(ask()) {
			t.Errorf("P0.3: who writes into a refusal of %s changes others", name)
		}
	}
}

// What was refused leaves no trace in what comes behind.
func TestNothingIsKept(t *testing.T) {
	p := roomy()
	want := modelEncode(p)
	for n := range 40 {
		code.Decode(want[:n])
		code.Encode(&api.Program{Records: make([][]api.Type, api.MaxBytes+n)})
		b, err := code.Encode(p)
		if err != nil || !bytes.Equal(b, want) {
			t.Fatalf("P0.5: Encode: %x, %v", b, err)
		}
		if q, err := code.Decode(want); err != nil || !same(p, q) {
			t.Fatalf("P0.5: Decode: %+v, %v", q, err)
		}
	}
}
