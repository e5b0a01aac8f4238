package code_test

import (
	"bytes"
	"errors"
	"math"
	"reflect"
	"strings"
	"testing"

	"haruspex/api"
	"haruspex/code"
	"haruspex/refuse"
)

// refused tells whether e is just the refusal that the chapter names, with nothing beside.
func refused(e error) bool {
	var x *refuse.Error
	return errors.As(e, &x) && *x == refuse.Error{Why: api.WhyBytes, At: api.Point{F: -1}} && e == error(x) && e.Error() == "bytes"
}

// refuses holds that b is no program's bytes.
func refuses(t *testing.T, b string) {
	t.Helper()
	if p, err := code.Decode([]byte(b)); p != nil || !refused(err) {
		t.Errorf("P9.1: Decode of %d bytes, %.40x: %v, %v", len(b), b, p, err)
	}
}

// forms are numbers and their bytes.
var forms = []struct {
	n    int
	want string
}{
	{0, "\x00"}, {-1, "\x01"}, {1, "\x02"}, {-2, "\x03"}, {2, "\x04"},
	{63, "\x7e"}, {-64, "\x7f"}, {64, "\x80\x01"}, {-65, "\x81\x01"}, {65, "\x82\x01"}, {-66, "\x83\x01"},
	{100, "\xc8\x01"}, {-100, "\xc7\x01"}, {127, "\xfe\x01"}, {128, "\x80\x02"}, {-129, "\x81\x02"},
	{8191, "\xfe\x7f"}, {-8192, "\xff\x7f"}, {8192, "\x80\x80\x01"}, {-8193, "\x81\x80\x01"},
	{1 << 20, "\x80\x80\x80\x01"}, {1 << 27, "\x80\x80\x80\x80\x01"}, {1 << 31, "\x80\x80\x80\x80\x10"}, {-1 << 31, "\xff\xff\xff\xff\x0f"},
	{1 << 34, "\x80\x80\x80\x80\x80\x01"}, {1 << 40, "\x80\x80\x80\x80\x80\x40"},
	{1<<55 - 1, "\xfe\xff\xff\xff\xff\xff\xff\x7f"}, {1 << 55, "\x80\x80\x80\x80\x80\x80\x80\x80\x01"},
	{1<<62 - 1, "\xfe\xff\xff\xff\xff\xff\xff\xff\x7f"}, {-1 << 62, "\xff\xff\xff\xff\xff\xff\xff\xff\x7f"},
	{1 << 62, "\x80\x80\x80\x80\x80\x80\x80\x80\x80\x01"}, {-1<<62 - 1, "\x81\x80\x80\x80\x80\x80\x80\x80\x80\x01"},
	{math.MaxInt, "\xfe\xff\xff\xff\xff\xff\xff\xff\xff\x01"}, {math.MinInt, "\xff\xff\xff\xff\xff\xff\xff\xff\xff\x01"},
}

func TestNumbers(t *testing.T) {
	for _, f := range forms {
		b, err := code.Encode(&api.Program{Main: f.n})
		if want := "\x00\x00\x00\x00\x00" + f.want; string(b) != want || err != nil {
			t.Errorf("P9.1: Main %d: %x, %v, want %x", f.n, b, err, want)
		}
		if p, err := code.Decode([]byte("\x00\x00\x00\x00\x00" + f.want)); err != nil || !reflect.DeepEqual(p, &api.Program{Main: f.n}) {
			t.Errorf("P9.1: %x: %v, %v, want %d", f.want, p, err, f.n)
		}
	}
}

// parts are programs that have one part of some kind, with a different number in each of its places, and their bytes.
var parts = []struct {
	name string
	p    api.Program
	want string
}{
	{"nothing", api.Program{}, "\x00\x00\x00\x00\x00\x00"},
	{"records", api.Program{Records: [][]api.Type{{{Kind: 1, N: 2}}, {}, {{Kind: 3, N: 4}, {Kind: 5, N: 6}}}}, "\x06\x02\x02\x04\x00\x04\x06\x08\x0a\x0c\x00\x00\x00\x00\x00"},
	{"a signature", api.Program{Sigs: []api.Sig{{Params: []api.Type{{Kind: 1, N: 2}, {Kind: 3, N: 4}}, Result: api.Type{Kind: 5, N: 6}}}}, "\x00\x02\x04\x02\x04\x06\x08\x0a\x0c\x00\x00\x00\x00"},
	{"a signature without parameters", api.Program{Sigs: []api.Sig{{Result: api.Type{Kind: 1, N: 2}}}}, "\x00\x02\x00\x02\x04\x00\x00\x00\x00"},
	{"interfaces", api.Program{Ifaces: []api.Iface{{Sigs: []int{3, 4}}, {}}}, "\x00\x00\x04\x04\x06\x08\x00\x00\x00\x00"},
	{"an Impl", api.Program{Impls: []api.Impl{{Rec: 1, Iface: 2, Funcs: []int{3, 4, 5}}}}, "\x00\x00\x00\x02\x02\x04\x06\x06\x08\x0a\x00\x00"},
	{"functions", api.Program{Funcs: []api.Func{{Sig: 1, Regs: []api.Type{{Kind: 2, N: 3}}}, {}}}, "\x00\x00\x00\x00\x04\x02\x02\x04\x06\x00\x00\x00\x00\x00"},
	{"a block", api.Program{Funcs: []api.Func{{Blocks: []api.Block{{End: 1, Reg: 2, To: 3, Else: 4}}}}}, "\x00\x00\x00\x00\x02\x00\x00\x02\x00\x02\x04\x06\x08\x00"},
	{"an instruction", api.Program{Funcs: []api.Func{{Blocks: []api.Block{{Code: []api.Instr{{Op: 1, Dst: 2, A: 3, B: 4, N: 5, Args: []int{6, 7}}}}}}}}, "\x00\x00\x00\x00\x02\x00\x00\x02\x02\x02\x04\x06\x08\x0a\x04\x0c\x0e\x00\x00\x00\x00\x00"},
	{"main", api.Program{Main: 3}, "\x00\x00\x00\x00\x00\x06"},
	{"one of each", api.Program{Records: [][]api.Type{{}}, Sigs: []api.Sig{{}}, Ifaces: []api.Iface{{}}, Impls: []api.Impl{{}}, Funcs: []api.Func{{}}, Main: -1}, "\x02\x00\x02\x00\x00\x00\x02\x00\x02\x00\x00\x00\x02\x00\x00\x00\x01"},
}

func TestParts(t *testing.T) {
	for _, c := range parts {
		if b, err := code.Encode(&c.p); string(b) != c.want || err != nil {
			t.Errorf("P9.1: %s: %x, %v, want %x", c.name, b, err, c.want)
		}
		if p, err := code.Decode([]byte(c.want)); err != nil || !same(p, &c.p) {
			t.Errorf("P9.1: %s: %+v, %v, want %+v", c.name, p, err, c.p)
		}
	}
}

// A part of each of these bytes, or one byte more behind them, is no program.
func TestTooFewAndTooMany(t *testing.T) {
	for _, c := range parts {
		for n := range c.want {
			refuses(t, c.want[:n])
		}
		for x := range 256 {
			refuses(t, c.want+string([]byte{byte(x)}))
		}
		refuses(t, c.want+c.want)
	}
}

func TestNilProgram(t *testing.T) {
	if b, err := code.Encode(nil); b != nil || !refused(err) {
		t.Errorf("P9.1: Encode of nil: %x, %v", b, err)
	}
	if p, err := code.Decode(nil); p != nil || !refused(err) {
		t.Errorf("P9.1: Decode of nil: %v, %v", p, err)
	}
}

// Numbers that are longer than needed, wherever they stand.
func TestNumbersThatAreTooLong(t *testing.T) {
	for _, f := range forms {
		b := []byte(f.want)
		b[len(b)-1] |= 128
		for k := 1; k < 12; k++ {
			refuses(t, "\x00\x00\x00\x00\x00"+string(b)+strings.Repeat("\x80", k-1)+"\x00")
		}
	}
	for k := range 6 {
		refuses(t, strings.Repeat("\x00", k)+"\x80\x00"+strings.Repeat("\x00", 5-k))
	}
	refuses(t, "\x00\x00\x00\x00\x02\x00\x00\x82\x00\x00\x02\x04\x06\x08\x00")
	refuses(t, "\x00\x00\x02\x02\x86\x00\x00\x00\x00")
}

func TestNumbersThatAreTooGreat(t *testing.T) {
	const nine = "\xff\xff\xff\xff\xff\xff\xff\xff\xff"
	for x := 2; x < 256; x++ {
		refuses(t, "\x00\x00\x00\x00\x00"+nine+string([]byte{byte(x)}))
		refuses(t, "\x00\x00\x00\x00\x00"+strings.Repeat("\x80", 9)+string([]byte{byte(x)}))
	}
	// What lies on top of 64 bits, one byte or many behind, is not dropped.
	for k := range 60 {
		refuses(t, "\x00\x00\x00\x00\x00"+nine+"\x81"+strings.Repeat("\x80", k)+"\x01")
		refuses(t, "\x00\x00\x00\x00\x00"+strings.Repeat("\x80", 9+k)+"\x02")
	}
	refuses(t, "\x00\x00\x00\x00\x00"+strings.Repeat("\xff", 5000)+"\x01")
}

// A number that does not end.
func TestNumbersWithoutEnd(t *testing.T) {
	for k := 1; k < 30; k++ {
		refuses(t, "\x00\x00\x00\x00\x00"+strings.Repeat("\x80", k))
		refuses(t, strings.Repeat("\xff", k))
	}
}

// lengths stand where a list of each kind has its own; what comes behind them is parts of zeros.
var lengths = []string{
	"", "\x00", "\x00\x00", "\x00\x00\x00", "\x00\x00\x00\x00", // of a program
	"\x02", "\x00\x02", "\x00\x00\x02", "\x00\x00\x00\x02\x00\x00", // of a record, a signature, an interface, an Impl
	"\x00\x00\x00\x00\x02\x00", "\x00\x00\x00\x00\x02\x00\x00", "\x00\x00\x00\x00\x02\x00\x00\x02", // of a function: Regs, Blocks; Code
	"\x00\x00\x00\x00\x02\x00\x00\x02\x02\x00\x00\x00\x00\x00", // Args
}

func TestLengthsThatAreNone(t *testing.T) {
	for _, ahead := range lengths {
		for _, f := range forms {
			if f.n >= 0 && f.n < 8192 {
				continue
			}
			for _, k := range []int{0, 1, 5, 6, 100, 8000} {
				refuses(t, ahead+f.want+strings.Repeat("\x00", k))
			}
		}
	}
}

// The bytes of all programs differ, so what Decode gives is written as it was read, whichever lists are long.
func TestLengthsOfEachList(t *testing.T) {
	for k, ahead := range lengths {
		taken := 0
		for n := range 300 {
			b := []byte(ahead + "\x06" + strings.Repeat("\x00", n))
			p, err := code.Decode(b)
			if err != nil {
				refuses(t, string(b))
				continue
			}
			taken++
			if again, err := code.Encode(p); !bytes.Equal(again, b) || err != nil {
				t.Errorf("P9.1: %x is written as %x, %v", b, again, err)
			}
		}
		if taken != 1 {
			t.Errorf("P9.1: a list of three of the kind %d ends at %d places", k, taken)
		}
	}
}

// No limit but the one of the bytes is code's.
func TestBeyondTheOtherLimits(t *testing.T) {
	p := &api.Program{
		Records: [][]api.Type{make([]api.Type, api.MaxFields+1), {{Kind: -9, N: math.MinInt}}},
		Sigs:    make([]api.Sig, api.MaxSigs+1),
		Ifaces:  make([]api.Iface, api.MaxIfaces+1),
		Impls:   make([]api.Impl, api.MaxImpls+1),
		Funcs:   make([]api.Func, api.MaxFuncs+1),
		Main:    math.MaxInt,
	}
	p.Funcs[3] = api.Func{Sig: -1, Regs: make([]api.Type, api.MaxRegs+1), Blocks: make([]api.Block, api.MaxBlocks+1)}
	p.Funcs[3].Blocks[5] = api.Block{Code: make([]api.Instr, api.MaxCode+1), End: 99, Reg: -5, To: 77, Else: -1}
	p.Funcs[3].Blocks[5].Code[30].Args = make([]int, api.MaxParams+1)
	b, err := code.Encode(p)
	if err != nil {
		t.Fatalf("P9.1: Encode: %v", err)
	}
	if q, err := code.Decode(b); err != nil || !same(p, q) {
		t.Errorf("P9.1: Decode: %v, %v", q, err)
	}
}
