package sem_test

import (
	"fmt"
	"math"
	"slices"
	"testing"

	"haruspex/api"
	"haruspex/ir"
	"haruspex/sem"
	"haruspex/wf"
)

var (
	num    = api.Type{Kind: api.TInt}
	ptr0   = api.Type{Kind: api.TPtr}
	ptr1   = api.Type{Kind: api.TPtr, N: 1}
	fun1   = api.Type{Kind: api.TFun, N: 1}
	fun3   = api.Type{Kind: api.TFun, N: 3}
	iface0 = api.Type{Kind: api.TIface}
	iface1 = api.Type{Kind: api.TIface, N: 1}

	nothing = api.Value{Kind: api.VNil}
)

// The functions of base by what they do; main is the last one.
const (
	field   = iota // gives its record's field 0
	eleven         // gives 11, without following its record
	second         // gives its second argument, a pointer
	same           // gives its second argument, a number
	twice          // gives its second argument, a number, and that again
	alone          // takes nothing and gives nil
	theMain        // main
)

// gives gives a block that returns r.
func gives(r int, code ...api.Instr) api.Block {
	return api.Block{Code: code, End: api.EReturn, Reg: r}
}

// base gives a program with a main of these registers and blocks. Interface 0 has one method, 1 has two; of the record 0
// they are field and same, of the record 1 eleven and twice.
func base(regs []api.Type, blocks ...api.Block) *api.Program {
	return &api.Program{
		Records: [][]api.Type{{num, ptr0, ptr1}, {iface0, fun1, num, iface1}},
		Sigs: []api.Sig{
			{},
			{Params: []api.Type{ptr0}},
			{Params: []api.Type{ptr1}},
			{Params: []api.Type{num, ptr0}, Result: ptr0},
			{Params: []api.Type{ptr0, num}},
			{Params: []api.Type{ptr1, num}},
			{Params: []api.Type{num}},
			{Result: fun1},
		},
		Ifaces: []api.Iface{{Sigs: []int{0}}, {Sigs: []int{0, 6}}},
		Impls: []api.Impl{
			{Rec: 1, Iface: 0, Funcs: []int{eleven}},
			{Rec: 0, Iface: 0, Funcs: []int{field}},
			{Rec: 1, Iface: 1, Funcs: []int{eleven, twice}},
			{Rec: 0, Iface: 1, Funcs: []int{field, same}},
		},
		Funcs: []api.Func{
			{Sig: 1, Regs: []api.Type{ptr0, num}, Blocks: []api.Block{gives(1, api.Instr{Op: api.OLoad, Dst: 1})}},
			{Sig: 2, Regs: []api.Type{ptr1, num}, Blocks: []api.Block{gives(1, api.Instr{Op: api.OConst, Dst: 1, N: 11})}},
			{Sig: 3, Regs: []api.Type{num, ptr0, num}, Blocks: []api.Block{gives(1)}},
			{Sig: 4, Regs: []api.Type{ptr0, num}, Blocks: []api.Block{gives(1)}},
			{Sig: 5, Regs: []api.Type{ptr1, num}, Blocks: []api.Block{gives(1, api.Instr{Op: api.OAdd, Dst: 1, A: 1, B: 1})}},
			{Sig: 7, Regs: []api.Type{fun1}, Blocks: []api.Block{gives(0, api.Instr{Op: api.ONil})}},
			{Regs: regs, Blocks: blocks},
		},
		Main: theMain,
	}
}

// start gives a machine for a program that may be.
func start(t *testing.T, p *api.Program, oracle ...int64) *sem.Machine {
	t.Helper()
	if err := wf.Check(p); err != nil {
		t.Fatalf("the test is wrong: %v", err)
	}
	m := sem.New(p, oracle)
	if m == nil {
		t.Fatal("P14.1: no machine of a program that may be")
	}
	return m
}

// walk does n steps that end nothing.
func walk(t *testing.T, m *sem.Machine, n int) {
	t.Helper()
	for k := range n {
		if why := m.Step(); why != 0 {
			t.Fatalf("P14.1: step %d of %d: %d at %d", k+1, n, why, m.At())
		}
	}
}

// stands holds the machine's place.
func stands(t *testing.T, p *api.Program, m *sem.Machine, q api.Point, depth int) {
	t.Helper()
	if got, want := m.At(), slices.Index(ir.Points(p), q); got != want || m.Depth() != depth {
		t.Fatalf("P14.2: at %d with %d frames, want %v (%d) with %d", got, m.Depth(), q, want, depth)
	}
}

// reads holds the registers of the frame above, from 0 on; those behind have no value.
func reads(t *testing.T, m *sem.Machine, want ...any) {
	t.Helper()
	for r := range api.MaxRegs {
		v, ok := m.Reg(r)
		var one any
		if r < len(want) {
			one = want[r]
		}
		if w, has := one.(api.Value); ok != has || v != w {
			t.Errorf("P14.2: register %d: %v, %t, want %v", r, v, ok, one)
		}
	}
}

// quiet holds that the last step, if there was one, called nothing and let nothing out.
func quiet(t *testing.T, m *sem.Machine) {
	t.Helper()
	if m.Called() != -1 || m.Sunk() {
		t.Errorf("P14.2: Called %d, Sunk %t", m.Called(), m.Sunk())
	}
}

// ends holds that the next step ends the run so, at its point, as do all behind it, and that nothing else is changed.
func ends(t *testing.T, m *sem.Machine, want int) {
	t.Helper()
	at, depth, was := m.At(), m.Depth(), registers(m)+heapText(m.Heap())
	for k := range 3 {
		if why := m.Step(); why != want {
			t.Fatalf("P14.1: step %d from %d: %d, want %d", k+1, at, why, want)
		}
		quiet(t, m)
		if now := registers(m) + heapText(m.Heap()); m.At() != at || m.Depth() != depth || now != was {
			t.Fatalf("P14.1: at %d with %d frames and %s, it was %d with %d and %s", m.At(), m.Depth(), now, at, depth, was)
		}
	}
}

// registers tells all of the frame above.
func registers(m *sem.Machine) string {
	text := ""
	for r := range api.MaxRegs {
		if v, ok := m.Reg(r); ok {
			text += fmt.Sprint(r, v, " ")
		}
	}
	return text
}

func TestNew(t *testing.T) {
	p := base([]api.Type{num}, gives(0, api.Instr{Op: api.OConst, N: 5}))
	m := start(t, p)
	stands(t, p, m, api.Point{F: theMain}, 1)
	reads(t, m)
	quiet(t, m)
	if h := m.Heap(); h == nil || h.Len() != 0 || m.Result() != (api.Value{}) {
		t.Errorf("P14.2: a heap of %d objects, a result %v", h.Len(), m.Result())
	}
}

// Main may be any function; its first point is then not the first one of all.
func TestMainIsAnyFunction(t *testing.T) {
	for k := range 3 {
		p := &api.Program{Sigs: []api.Sig{{}}, Main: k}
		for n := range 3 {
			p.Funcs = append(p.Funcs, api.Func{Regs: []api.Type{num}, Blocks: []api.Block{gives(0, api.Instr{Op: api.OConst, N: 10 + n})}})
		}
		m := start(t, p)
		stands(t, p, m, api.Point{F: k}, 1)
		walk(t, m, 1)
		ends(t, m, api.AEnd)
		if m.Result() != (api.Value{N: int64(10 + k)}) || m.At() != 2*k+1 {
			t.Errorf("P14.1: main %d: %v at %d", k, m.Result(), m.At())
		}
	}
}

// defined is an instruction and what the register that it defines then is; nil: it defines none.
type defined struct {
	i    api.Instr
	want any
}

// simple gives instructions of each kind that neither calls nor ends anything.
func simple() []defined {
	val := func(kind int, n int64) api.Value { return api.Value{Kind: kind, N: n} }
	return []defined{
		{api.Instr{Op: api.OConst, N: math.MinInt}, val(api.VInt, math.MinInt64)},
		{api.Instr{Op: api.OConst, Dst: 1, N: -1}, val(api.VInt, -1)},
		{api.Instr{Op: api.OAdd, B: 1}, val(api.VInt, math.MaxInt64)}, // it wraps
		{api.Instr{Op: api.OAdd, Dst: 1, A: 1, B: 1}, val(api.VInt, -2)},
		{api.Instr{Op: api.OConst, Dst: 1, N: math.MaxInt}, val(api.VInt, math.MaxInt64)},
		{api.Instr{Op: api.OAdd, Dst: 1, A: 1}, val(api.VInt, -2)},
		{api.Instr{Op: api.OCopy, A: 1}, val(api.VInt, -2)},
		{api.Instr{Op: api.OConst, Dst: 1}, val(api.VInt, 0)},
		{api.Instr{Op: api.ONil, Dst: 2}, nothing},
		{api.Instr{Op: api.ONil, Dst: 5}, nothing},
		{api.Instr{Op: api.ONil, Dst: 6}, nothing},
		{api.Instr{Op: api.OMake, Dst: 6, A: 2}, nothing},
		{api.Instr{Op: api.OCopy, Dst: 3, A: 2}, nothing},
		{api.Instr{Op: api.OAlloc, Dst: 2}, val(api.VPtr, 1)},
		{api.Instr{Op: api.OAlloc, Dst: 3}, val(api.VPtr, 2)},
		{api.Instr{Op: api.OAlloc, Dst: 4}, val(api.VPtr, 3)},
		{api.Instr{Op: api.OLoad, Dst: 1, A: 3}, val(api.VInt, 0)},
		{api.Instr{Op: api.OLoad, Dst: 3, A: 3, N: 1}, nothing},
		{api.Instr{Op: api.OLoad, Dst: 6, A: 4}, nothing},
		{api.Instr{Op: api.OLoad, Dst: 7, A: 4, N: 1}, nothing},
		{api.Instr{Op: api.OFun, Dst: 5, N: second}, val(api.VFun, second)},
		{api.Instr{Op: api.OFun, Dst: 7, N: field}, val(api.VFun, field)},
		{api.Instr{Op: api.OMake, Dst: 6, A: 2}, val(api.VPtr, 1)},
		{api.Instr{Op: api.OMake, Dst: 8, A: 4}, val(api.VPtr, 3)},
		{api.Instr{Op: api.OStore, A: 2, B: 2, N: 1}, nil},
		{api.Instr{Op: api.OStore, A: 2, B: 0}, nil},
		{api.Instr{Op: api.OStore, A: 2, B: 4, N: 2}, nil},
		{api.Instr{Op: api.OStore, A: 4, B: 6}, nil},
		{api.Instr{Op: api.OStore, A: 4, B: 7, N: 1}, nil},
		{api.Instr{Op: api.OStore, A: 4, B: 8, N: 3}, nil},
		{api.Instr{Op: api.OLoad, Dst: 3, A: 2, N: 1}, val(api.VPtr, 1)},
		{api.Instr{Op: api.OLoad, Dst: 1, A: 3}, val(api.VInt, -2)},
		{api.Instr{Op: api.ONil, Dst: 4}, nothing},
		{api.Instr{Op: api.OLoad, Dst: 4, A: 3, N: 2}, val(api.VPtr, 3)},
		{api.Instr{Op: api.ONil, Dst: 6}, nothing},
		{api.Instr{Op: api.OLoad, Dst: 6, A: 4}, val(api.VPtr, 1)},
		{api.Instr{Op: api.OLoad, Dst: 7, A: 4, N: 1}, val(api.VFun, field)},
		{api.Instr{Op: api.OLoad, Dst: 8, A: 4, N: 3}, val(api.VPtr, 3)},
		{api.Instr{Op: api.OFree, A: 3}, nil},
		// A pointer to what is free is a pointer like others, as long as it is not followed.
		{api.Instr{Op: api.OCopy, Dst: 3, A: 2}, val(api.VPtr, 1)},
		{api.Instr{Op: api.OMake, Dst: 6, A: 3}, val(api.VPtr, 1)},
		{api.Instr{Op: api.OStore, A: 4, B: 6}, nil},
		{api.Instr{Op: api.OLoad, Dst: 6, A: 4}, val(api.VPtr, 1)},
		{api.Instr{Op: api.OSink, A: 0}, nil},
		{api.Instr{Op: api.OAlloc, Dst: 3}, val(api.VPtr, 4)},
	}
}

func TestInstructions(t *testing.T) {
	l := simple()
	regs := []api.Type{num, num, ptr0, ptr0, ptr1, fun3, iface0, fun1, iface1}
	p := base(regs, api.Block{End: api.EJump, To: 1}, api.Block{End: api.EJump, To: 2}, gives(0))
	for k, x := range l {
		b := &p.Funcs[theMain].Blocks[k/api.MaxCode]
		b.Code = append(b.Code, x.i)
	}
	m := start(t, p)
	want := make([]any, len(regs))
	for k, x := range l {
		if k == api.MaxCode {
			walk(t, m, 1)
		}
		stands(t, p, m, api.Point{F: theMain, B: k / api.MaxCode, I: k % api.MaxCode}, 1)
		walk(t, m, 1)
		quiet(t, m)
		if x.want != nil {
			want[x.i.Dst] = x.want
		}
		reads(t, m, want...)
		if t.Failed() {
			t.Fatalf("behind %d, %s", k, ir.Line(x.i))
		}
	}
}

// What a run's objects are: their sites by the points' numbers, and what stands in them.
func TestHeap(t *testing.T) {
	p := base([]api.Type{num, ptr0, ptr1}, gives(0,
		api.Instr{Op: api.OSource}, api.Instr{Op: api.OAlloc, Dst: 1}, api.Instr{Op: api.OAlloc, Dst: 2},
		api.Instr{Op: api.OStore, A: 1, B: 2, N: 2}, api.Instr{Op: api.OStore, A: 2, B: 0, N: 2}, api.Instr{Op: api.OFree, A: 1}))
	first := slices.Index(ir.Points(p), api.Point{F: theMain})
	m := start(t, p, 8)
	text := fmt.Sprint(first+1, "[{0 0 false} {1 0 false} {2 2 false}]", first+2, "[{1 0 false} {1 0 false} {0 8 true} {1 0 false}]")
	walk(t, m, 5)
	if got := heapText(m.Heap()); got != text {
		t.Errorf("P14.1: the heap is %s, want %s", got, text)
	}
	walk(t, m, 1)
	text = fmt.Sprint(first+1, "free", first+2, "[{1 0 false} {1 0 false} {0 8 true} {1 0 false}]")
	if got := heapText(m.Heap()); got != text {
		t.Errorf("P14.1: the heap is %s, want %s", got, text)
	}
	ends(t, m, api.AEnd)
}

// Numbers from without, in order; none is left: 0.
func TestOracle(t *testing.T) {
	numbers := []int64{7, 0, -1, math.MaxInt64, math.MinInt64}
	for have := range len(numbers) + 1 {
		for _, oracle := range [][]int64{numbers[:have], slices.Clone(numbers[:have])} {
			p := base([]api.Type{num}, api.Block{Code: []api.Instr{{Op: api.OSource}}, End: api.EJump})
			m := start(t, p, oracle...)
			for k := range have + 4 {
				var n int64
				if k < have {
					n = numbers[k]
				}
				walk(t, m, 1)
				quiet(t, m)
				reads(t, m, api.Value{N: n, Taint: true})
				walk(t, m, 1)
			}
		}
	}
}

// Functions that are called take from the same numbers, and from the same objects.
func TestOneOracleAndOneHeapForAll(t *testing.T) {
	p := base([]api.Type{num, num}, gives(0, api.Instr{Op: api.OSource}, api.Instr{Op: api.OCall, Dst: 1, N: theMain + 1}, api.Instr{Op: api.OSource}))
	p.Funcs = append(p.Funcs, api.Func{Regs: []api.Type{num, ptr0}, Blocks: []api.Block{gives(0, api.Instr{Op: api.OSource}, api.Instr{Op: api.OAlloc, Dst: 1})}})
	m := start(t, p, 1, 2, 3)
	walk(t, m, 6)
	reads(t, m, api.Value{N: 3, Taint: true}, api.Value{N: 2, Taint: true})
	if m.Heap().Len() != 1 {
		t.Errorf("P14.1: %d objects", m.Heap().Len())
	}
	ends(t, m, api.AEnd)
}

func TestBranches(t *testing.T) {
	for _, n := range []int64{0, 1, -1, 2, 1 << 32, 1 << 8, math.MinInt64, math.MaxInt64} {
		for _, i := range []api.Instr{{Op: api.OSource}, {Op: api.OConst, N: int(n)}} {
			p := base([]api.Type{num}, api.Block{Code: []api.Instr{i}, End: api.EBranch, To: 2, Else: 1}, gives(0), gives(0))
			m := start(t, p, n)
			walk(t, m, 2)
			quiet(t, m)
			to := 2
			if n == 0 {
				to = 1
			}
			stands(t, p, m, api.Point{F: theMain, B: to}, 1)
			ends(t, m, api.AEnd)
			if m.Result() != (api.Value{N: n, Taint: i.Op == api.OSource}) {
				t.Errorf("P14.2: the result is %v", m.Result())
			}
		}
	}
	// Another register than the one that was set last.
	p := base([]api.Type{num, num}, api.Block{Code: []api.Instr{{Op: api.OConst, N: 4}, {Op: api.OConst, Dst: 1}}, End: api.EBranch, Reg: 1, To: 1, Else: 2}, gives(0), gives(1))
	m := start(t, p)
	walk(t, m, 3)
	stands(t, p, m, api.Point{F: theMain, B: 2}, 1)
}

// Jumps to blocks ahead, to themselves and to others, with code and without; registers stay.
func TestJumps(t *testing.T) {
	p := base([]api.Type{num},
		api.Block{Code: []api.Instr{{Op: api.OConst, N: 3}}, End: api.EJump, To: 2},
		api.Block{End: api.EBranch, To: 1, Else: 1},
		api.Block{End: api.EJump, To: 1})
	m := start(t, p)
	for _, q := range []api.Point{{}, {I: 1}, {B: 2}, {B: 1}, {B: 1}, {B: 1}} {
		q.F = theMain
		stands(t, p, m, q, 1)
		walk(t, m, 1)
		quiet(t, m)
		reads(t, m, api.Value{N: 3})
	}
}

// A value's taint goes with it wherever it goes, and no farther.
func TestTaint(t *testing.T) {
	p := base([]api.Type{num, num, num, ptr0, ptr0, iface1, {Kind: api.TFun, N: 4}},
		api.Block{Code: []api.Instr{
			{Op: api.OSource}, {Op: api.OConst, Dst: 1, N: 5}, {Op: api.OCopy, Dst: 2, A: 0}, {Op: api.OAlloc, Dst: 3}, {Op: api.OAlloc, Dst: 4},
			{Op: api.OStore, A: 3, B: 2}, {Op: api.OConst, Dst: 2}, {Op: api.OLoad, Dst: 2, A: 3}, {Op: api.OCopy, Dst: 2, A: 1}, {Op: api.OLoad, Dst: 2, A: 4},
			{Op: api.OAdd, Dst: 2, A: 0, B: 1}, {Op: api.OAdd, Dst: 2, A: 1, B: 1}, {Op: api.OAdd, Dst: 2, A: 1, B: 0}, {Op: api.OAdd, Dst: 2, A: 0, B: 0},
			{Op: api.OConst, Dst: 2, N: 5}, {Op: api.OLoad, Dst: 2, A: 3}, {Op: api.OStore, A: 3, B: 1}, {Op: api.OLoad, Dst: 2, A: 3}, {Op: api.OFun, Dst: 6, N: same}, {Op: api.OMake, Dst: 5, A: 3},
		}, End: api.EJump, To: 1},
		gives(2, api.Instr{Op: api.OCall, Dst: 2, N: same, Args: []int{3, 0}}, api.Instr{Op: api.OCall, Dst: 2, N: same, Args: []int{3, 1}},
			api.Instr{Op: api.OCallR, Dst: 2, A: 6, Args: []int{3, 0}}, api.Instr{Op: api.OCallR, Dst: 2, A: 6, Args: []int{3, 1}},
			api.Instr{Op: api.OCallI, Dst: 2, A: 5, N: 1, Args: []int{0}}, api.Instr{Op: api.OCallI, Dst: 2, A: 5, N: 1, Args: []int{1}},
			api.Instr{Op: api.OCallI, Dst: 2, A: 5, N: 1, Args: []int{0}}))
	m := start(t, p, 9)
	got := ""
	for m.Step() == 0 {
		if m.Depth() > 1 {
			continue
		}
		if v, ok := m.Reg(2); ok && v.Taint {
			got += "t"
		} else {
			got += "."
		}
	}
	// Of each step in main one: 20 instructions, the jump, 7 calls.
	if want := "..tttt.t..t.tt.tt..." + "." + "t.t.t.t"; got != want || m.Result() != (api.Value{N: 9, Taint: true}) {
		t.Errorf("P14.1: %s, want %s; %v", got, want, m.Result())
	}
	if v, _ := m.Reg(3); v != (api.Value{Kind: api.VPtr, N: 1}) {
		t.Errorf("P14.1: the pointer is %v", v)
	}
}

func TestSunk(t *testing.T) {
	p := base([]api.Type{num, num}, gives(0,
		api.Instr{Op: api.OSource}, api.Instr{Op: api.OConst, Dst: 1, N: 3}, api.Instr{Op: api.OSink}, api.Instr{Op: api.OSink, A: 1}, api.Instr{Op: api.OSink},
		api.Instr{Op: api.OSink}, api.Instr{Op: api.OCopy, Dst: 1}, api.Instr{Op: api.OSink, A: 1}))
	m := start(t, p)
	for k, want := range []bool{false, false, true, false, true, true, false, true} {
		walk(t, m, 1)
		if m.Sunk() != want || m.Sunk() != want || m.Called() != -1 {
			t.Errorf("P14.2: behind step %d: Sunk %t", k+1, m.Sunk())
		}
		if k > 1 && k < 6 {
			reads(t, m, api.Value{Taint: true}, api.Value{N: 3})
		}
	}
	ends(t, m, api.AEnd)
	if m.Sunk() {
		t.Error("P14.2: Sunk behind the end")
	}
}

func TestEnd(t *testing.T) {
	p := base([]api.Type{num, ptr0}, gives(0, api.Instr{Op: api.OSource}, api.Instr{Op: api.OAlloc, Dst: 1}))
	m := start(t, p, -4)
	for range 2 {
		walk(t, m, 1)
		if m.Result() != (api.Value{}) {
			t.Errorf("P14.2: a result %v ahead of the end", m.Result())
		}
	}
	ends(t, m, api.AEnd)
	stands(t, p, m, api.Point{F: theMain, I: 2}, 1)
	reads(t, m, api.Value{N: -4, Taint: true}, api.Value{Kind: api.VPtr, N: 1})
	if m.Result() != (api.Value{N: -4, Taint: true}) || m.Heap().Len() != 1 {
		t.Errorf("P14.2: %v, %d objects", m.Result(), m.Heap().Len())
	}
}
