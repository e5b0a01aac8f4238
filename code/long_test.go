package code_test

import (
	"bytes"
	"slices"
	"strings"
	"testing"

	"haruspex/api"
	"haruspex/code"
)

// holdSize holds that p has just n bytes, and that these are taken or refused as their number asks.
func holdSize(t *testing.T, name string, p *api.Program, n int) {
	t.Helper()
	if want := len(modelEncode(p)); want != n {
		t.Fatalf("P9.1: %s: the model has %d bytes, not %d", name, want, n)
	}
	b, err := code.Encode(p)
	if n > api.MaxBytes {
		if b != nil || !refused(err) {
			t.Errorf("P9.1: %s: Encode gives %d bytes, %v", name, len(b), err)
		}
		refuses(t, string(modelEncode(p)))
		return
	}
	if err != nil || !bytes.Equal(b, modelEncode(p)) {
		t.Fatalf("P9.1: %s: Encode gives %d bytes, %v", name, len(b), err)
	}
	if q, err := code.Decode(b); err != nil || !same(p, q) {
		t.Errorf("P9.1: %s: Decode: %v", name, err)
	}
}

// At the edge of the bytes that there may be, whichever list fills them, and with a last number of many bytes across it.
func TestTheEdge(t *testing.T) {
	for k := -11; k <= 11; k++ {
		n := api.MaxBytes + k
		block := api.Block{Code: []api.Instr{{Args: make([]int, n-22)}}}
		holdSize(t, "records", &api.Program{Records: make([][]api.Type, n-8)}, n)
		holdSize(t, "an interface", &api.Program{Ifaces: []api.Iface{{Sigs: make([]int, n-9)}}}, n)
		holdSize(t, "interfaces", &api.Program{Ifaces: make([]api.Iface, n-8)}, n)
		holdSize(t, "an Impl", &api.Program{Impls: []api.Impl{{Funcs: make([]int, n-11)}}}, n)
		holdSize(t, "arguments", &api.Program{Funcs: []api.Func{{Blocks: []api.Block{block}}}}, n)
		holdSize(t, "records and a great Main", &api.Program{Records: make([][]api.Type, n-17), Main: -1 << 63}, n)
		holdSize(t, "records and a function", &api.Program{Records: make([][]api.Type, n-11), Funcs: make([]api.Func, 1)}, n)
	}
	for k := -3; k <= 3; k++ {
		holdSize(t, "types", &api.Program{Records: [][]api.Type{make([]api.Type, 9995+k)}}, 9+2*(9995+k))
		holdSize(t, "signatures", &api.Program{Sigs: make([]api.Sig, 6664+k)}, 7+3*(6664+k))
		holdSize(t, "blocks", &api.Program{Funcs: []api.Func{{Blocks: make([]api.Block, 3998+k)}}}, 10+5*(3998+k))
		holdSize(t, "instructions", &api.Program{Funcs: []api.Func{{Blocks: []api.Block{{Code: make([]api.Instr, 3330+k)}}}}}, 15+6*(3330+k))
	}
}

// Long lists are not gone through to their ends, nor those that share one memory again and again.
func TestLongLists(t *testing.T) {
	const n = 1 << 22
	args := make([]int, n)
	instrs := slices.Repeat([]api.Instr{{Args: args}}, 1<<16)
	blocks := slices.Repeat([]api.Block{{Code: instrs}}, 1<<16)
	for name, p := range map[string]*api.Program{
		"records":      {Records: make([][]api.Type, n)},
		"types":        {Records: slices.Repeat([][]api.Type{make([]api.Type, n)}, 1<<16)},
		"signatures":   {Sigs: slices.Repeat([]api.Sig{{Params: make([]api.Type, n)}}, 1<<16)},
		"interfaces":   {Ifaces: slices.Repeat([]api.Iface{{Sigs: args}}, 1<<16)},
		"Impls":        {Impls: slices.Repeat([]api.Impl{{Funcs: args}}, 1<<16)},
		"registers":    {Funcs: slices.Repeat([]api.Func{{Regs: make([]api.Type, n)}}, 1<<16)},
		"instructions": {Funcs: slices.Repeat([]api.Func{{Blocks: blocks}}, 1<<16)},
	} {
		if b, err := code.Encode(p); b != nil || !refused(err) {
			t.Errorf("P9.1: long %s: %d bytes, %v", name, len(b), err)
		}
	}
}

func TestLongBytes(t *testing.T) {
	for _, n := range []int{api.MaxBytes, api.MaxBytes + 1, 1 << 24} {
		for _, x := range []string{"\x00", "\x01", "\x02", "\x7f", "\x80", "\xff"} {
			refuses(t, strings.Repeat(x, n))
		}
	}
	// A program's bytes with many behind them.
	refuses(t, "\x00\x00\x00\x00\x00\x00"+strings.Repeat("\x00", api.MaxBytes-6))
	refuses(t, "\x00\x00\x00\x00\x00\x00"+strings.Repeat("\x00", 1<<24))
}

// Lists within lists that each ask for all the room that is left.
func TestGreedyLengths(t *testing.T) {
	fill := strings.Repeat("\x00", 16000)
	const much = "\xc0\xf8\x01" // 15,904
	for _, ahead := range lengths {
		refuses(t, ahead+much+strings.Repeat(much, 5))
	}
	refuses(t, "\x00\x00\x00\x00"+much+"\x00\x00"+much+much+"\x00\x00\x00\x00\x00"+much+fill)
}

// A program with all that the limits of one function allow is far from the edge.
func TestAllLimitsOfAFunction(t *testing.T) {
	i := api.Instr{Op: api.OCallI, Dst: 15, A: 14, N: 2, Args: []int{1, 2, 3, 4}}
	block := api.Block{Code: slices.Repeat([]api.Instr{i}, api.MaxCode), End: api.EBranch, Reg: 15, To: 11, Else: 10}
	f := api.Func{Sig: 9, Regs: make([]api.Type, api.MaxRegs), Blocks: slices.Repeat([]api.Block{block}, api.MaxBlocks)}
	p := &api.Program{Funcs: []api.Func{f}}
	holdSize(t, "a function", p, 1+1+1+1+1+(1+(1+2*api.MaxRegs)+(1+api.MaxBlocks*(1+10*api.MaxCode+4)))+1)
	p.Funcs = slices.Repeat([]api.Func{f}, api.MaxFuncs)
	if b, err := code.Encode(p); b != nil || !refused(err) {
		t.Errorf("P9.1: all the limits at once: %d bytes, %v", len(b), err)
	}
}
