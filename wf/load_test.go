package wf_test

import (
	"errors"
	"math"
	"reflect"
	"slices"
	"strings"
	"testing"

	"haruspex/api"
	"haruspex/code"
	"haruspex/refuse"
	"haruspex/wf"
)

const noBytes = "bytes -1.0.0" // what is told of bytes of no program

// encoded gives the bytes of p.
func encoded(t *testing.T, p *api.Program) []byte {
	t.Helper()
	b, err := code.Encode(p)
	if err != nil {
		t.Fatal(err)
	}
	return b
}

// same tells whether two programs are one; a nil list is the same as an empty one.
func same(p, q *api.Program) bool {
	one, other := *p, *q
	empty(reflect.ValueOf(&one).Elem(), true)
	empty(reflect.ValueOf(&other).Elem(), true)
	return reflect.DeepEqual(one, other)
}

func TestLoad(t *testing.T) {
	p, err := wf.Load(encoded(t, great()))
	if err != nil || p == nil || !same(p, great()) {
		t.Errorf("P12.1: Load: %+v, %v", p, err)
	}
}

// refuses holds that bytes of no program are refused as Decode does.
func refuses(t *testing.T, b []byte) {
	t.Helper()
	p, err := wf.Load(b)
	if p != nil || told(err) != noBytes || !errors.Is(err, &refuse.Error{Why: api.WhyBytes}) {
		t.Fatalf("P12.1: Load of %x: %+v, %q", b[:min(len(b), 40)], p, told(err))
	}
}

func TestLoadOfNoProgram(t *testing.T) {
	b := encoded(t, great())
	for n := range b {
		refuses(t, b[:n])
	}
	refuses(t, nil)
	refuses(t, []byte{})
	refuses(t, b[1:])
	refuses(t, append(slices.Clone(b), 0))
	refuses(t, append(b[:len(b)-1:len(b)-1], 128, 0))
	refuses(t, []byte(strings.Repeat("\x00", api.MaxBytes+1)))
	refuses(t, []byte(strings.Repeat("\xff", 1<<24)))
	refuses(t, append(slices.Clone(b), make([]byte, 1<<24)...))
}

// Bytes of a program that may not be: no program is given, whatever the reason is.
func TestLoadOfWhatMayNotBe(t *testing.T) {
	for name, x := range map[string]struct {
		p    *api.Program
		want string
	}{
		"nothing":      {&api.Program{}, "bound -1.0.0"},
		"many records": {&api.Program{Records: make([][]api.Type, 19000)}, "bound -1.0.0"},
		"a great Main": {&api.Program{Funcs: great().Funcs, Sigs: great().Sigs, Records: great().Records, Ifaces: great().Ifaces, Main: math.MaxInt}, "name -1.0.0"},
		"a least Main": {&api.Program{Funcs: []api.Func{{Blocks: []api.Block{{End: api.EJump}}}}, Sigs: []api.Sig{{}}, Main: math.MinInt}, "name -1.0.0"},
	} {
		p, err := wf.Load(encoded(t, x.p))
		if p != nil || told(err) != around(x.want) {
			t.Errorf("P12.1: %s: %v, %q, want %q", name, p, told(err), around(x.want))
		}
	}
}

// Each byte of a program's, turned into each other one: what is loaded is what Decode gives, if Check takes it.
func TestSpoiltBytes(t *testing.T) {
	b := encoded(t, great())
	reasons := make(map[int]int)
	for k := range b {
		was := b[k]
		for n := range 256 {
			b[k] = byte(n)
			reasons[holdLoad(t, b)]++
		}
		b[k] = was
	}
	if len(reasons) != 8 {
		t.Errorf("P12.1: of the reasons some are missing: %v", reasons)
	}
}

// holdLoad holds Load against Decode and Check; it gives the reason of the refusal.
func holdLoad(t *testing.T, b []byte) int {
	t.Helper()
	p, err := wf.Load(b)
	q, no := code.Decode(b)
	if no == nil {
		no = wf.Check(q)
	}
	if told(err) != told(no) || (p == nil) != (no != nil) || p != nil && !same(p, q) {
		t.Fatalf("P12.1: Load of %x: %+v, %q, want %q", b, p, told(err), told(no))
	}
	return refuse.Why(err)
}

func TestRolledBytes(t *testing.T) {
	d := dice(1212)
	for range 20000 {
		b := make([]byte, d.roll(40))
		for k := range b {
			b[k] = byte(d.roll(6))
			if d.roll(8) == 0 {
				b[k] = byte(d.roll(256))
			}
		}
		holdLoad(t, b)
	}
}
