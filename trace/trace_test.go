package trace_test

import (
	"math"
	"slices"
	"testing"

	"haruspex/api"
	"haruspex/ir"
	"haruspex/trace"
	"haruspex/wf"
)

var (
	num    = api.Type{Kind: api.TInt}
	ptr0   = api.Type{Kind: api.TPtr}
	ptr1   = api.Type{Kind: api.TPtr, N: 1}
	fun0   = api.Type{Kind: api.TFun}
	fun1   = api.Type{Kind: api.TFun, N: 1}
	fun3   = api.Type{Kind: api.TFun, N: 3}
	iface0 = api.Type{Kind: api.TIface}
	iface1 = api.Type{Kind: api.TIface, N: 1}
)

// The functions of base by what they do; main is the last one.
const (
	field   = iota // gives its record's field 0
	eleven         // gives 11, without following its record
	second         // gives its second argument, a pointer
	same           // gives its second argument, a number
	twice          // gives its second argument, a number, and that again
	alone          // takes nothing and gives nil
	theMain        // main
)

// gives gives a block that returns r.
func gives(r int, code ...api.Instr) api.Block {
	return api.Block{Code: code, End: api.EReturn, Reg: r}
}

// base gives a program with a main of these registers and blocks. Interface 0 has one method, 1 has two; of the record 0
// they are field and same, of the record 1 eleven and twice.
func base(regs []api.Type, blocks ...api.Block) *api.Program {
	return &api.Program{
		Records: [][]api.Type{{num, ptr0, ptr1}, {iface0, fun1, num, iface1}},
		Sigs: []api.Sig{
			{},
			{Params: []api.Type{ptr0}},
			{Params: []api.Type{ptr1}},
			{Params: []api.Type{num, ptr0}, Result: ptr0},
			{Params: []api.Type{ptr0, num}},
			{Params: []api.Type{ptr1, num}},
			{Params: []api.Type{num}},
			{Result: fun1},
		},
		Ifaces: []api.Iface{{Sigs: []int{0}}, {Sigs: []int{0, 6}}},
		Impls: []api.Impl{
			{Rec: 1, Iface: 0, Funcs: []int{eleven}},
			{Rec: 0, Iface: 0, Funcs: []int{field}},
			{Rec: 1, Iface: 1, Funcs: []int{eleven, twice}},
			{Rec: 0, Iface: 1, Funcs: []int{field, same}},
		},
		Funcs: []api.Func{
			{Sig: 1, Regs: []api.Type{ptr0, num}, Blocks: []api.Block{gives(1, api.Instr{Op: api.OLoad, Dst: 1})}},
			{Sig: 2, Regs: []api.Type{ptr1, num}, Blocks: []api.Block{gives(1, api.Instr{Op: api.OConst, Dst: 1, N: 11})}},
			{Sig: 3, Regs: []api.Type{num, ptr0, num}, Blocks: []api.Block{gives(1)}},
			{Sig: 4, Regs: []api.Type{ptr0, num}, Blocks: []api.Block{gives(1)}},
			{Sig: 5, Regs: []api.Type{ptr1, num}, Blocks: []api.Block{gives(1, api.Instr{Op: api.OAdd, Dst: 1, A: 1, B: 1})}},
			{Sig: 7, Regs: []api.Type{fun1}, Blocks: []api.Block{gives(0, api.Instr{Op: api.ONil})}},
			{Regs: regs, Blocks: blocks},
		},
		Main: theMain,
	}
}

// may holds that a test's program may be.
func may(t *testing.T, p *api.Program) {
	t.Helper()
	if err := wf.Check(p); err != nil {
		t.Fatalf("the test is wrong: %v", err)
	}
}

// number gives the number of the point of main.
func number(t *testing.T, p *api.Program, block, instr int) int {
	t.Helper()
	n := slices.Index(ir.Points(p), api.Point{F: p.Main, B: block, I: instr})
	if n < 0 {
		t.Fatalf("the test is wrong: no point %d %d", block, instr)
	}
	return n
}

// event is an event at a point of main's, by its block and its place there.
type event struct{ block, instr, kind, n int }

// tells holds a whole run of which all events are main's.
func tells(t *testing.T, p *api.Program, oracle []int64, steps, why int, want ...event) {
	t.Helper()
	may(t, p)
	var l []trace.Event
	for _, e := range want {
		l = append(l, trace.Event{At: number(t, p, e.block, e.instr), Kind: e.kind, N: e.n})
	}
	got, n, end := trace.Run(p, oracle, 3000)
	if !slices.Equal(got, l) || n != steps || end != why {
		t.Errorf("P15.1: %v, %d, %d, want %v, %d, %d", got, n, end, l, steps, why)
	}
}

// What is no event is not told: of each other kind of instruction and end.
func TestQuiet(t *testing.T) {
	p := base([]api.Type{num, ptr0, fun1, iface0},
		api.Block{Code: []api.Instr{
			{Op: api.OSource}, {Op: api.OConst, N: 7}, {Op: api.OSink}, {Op: api.OAdd, B: 0}, {Op: api.OSink}, {Op: api.ONil, Dst: 1},
			{Op: api.OCopy, Dst: 1, A: 1}, {Op: api.OFun, Dst: 2, N: field}, {Op: api.OMake, Dst: 3, A: 1},
		}, End: api.EJump, To: 1},
		api.Block{End: api.EBranch, To: 2, Else: 1}, gives(0))
	tells(t, p, []int64{3}, 12, api.AEnd, event{2, 0, 4, api.AEnd})
}

// A sink of what comes from without, each time that it is done; of what does not, never.
func TestSinks(t *testing.T) {
	p := base([]api.Type{num, num},
		api.Block{Code: []api.Instr{{Op: api.OSource}, {Op: api.OSink}, {Op: api.OConst, Dst: 1}, {Op: api.OSink, A: 1}, {Op: api.OAdd, Dst: 1, A: 1, B: 0}, {Op: api.OSink, A: 1}},
			End: api.EBranch, To: 1, Else: 0},
		gives(0, api.Instr{Op: api.OSink}))
	tells(t, p, []int64{0, 4}, 16, api.AEnd,
		event{0, 1, 2, 0}, event{0, 5, 2, 0}, event{0, 1, 2, 0}, event{0, 5, 2, 0}, event{1, 0, 2, 0}, event{1, 1, 4, api.AEnd})
}

// An object is told by its number, whatever register leads to it and whatever was there; free ones have theirs still.
func TestObjects(t *testing.T) {
	p := base([]api.Type{num, ptr0, ptr1, ptr0},
		api.Block{Code: []api.Instr{
			{Op: api.OAlloc, Dst: 3}, {Op: api.OAlloc, Dst: 1}, {Op: api.OCopy, Dst: 1, A: 3}, {Op: api.OAlloc, Dst: 2}, {Op: api.OFree, A: 1},
			{Op: api.OAlloc, Dst: 1}, {Op: api.OStore, A: 1, B: 2, N: 2}, {Op: api.OLoad, Dst: 2, A: 1, N: 2}, {Op: api.OSource},
		}, End: api.EBranch, To: 0, Else: 1}, gives(0))
	tells(t, p, []int64{1, 0}, 21, api.AEnd,
		event{0, 0, 3, 1}, event{0, 1, 3, 2}, event{0, 3, 3, 3}, event{0, 5, 3, 4},
		event{0, 0, 3, 5}, event{0, 1, 3, 6}, event{0, 3, 3, 7}, event{0, 5, 3, 8}, event{1, 0, 4, api.AEnd})
}

// A call by each of the three instructions, at the point of the call; that it returns is not told.
func TestCalls(t *testing.T) {
	p := base([]api.Type{num, ptr0, fun3, iface0, fun1, iface1}, gives(0,
		api.Instr{Op: api.OConst, N: 5}, api.Instr{Op: api.OAlloc, Dst: 1}, api.Instr{Op: api.OFun, Dst: 2, N: second}, api.Instr{Op: api.OMake, Dst: 3, A: 1},
		api.Instr{Op: api.OMake, Dst: 5, A: 1},
		api.Instr{Op: api.OCall, Dst: 4, N: alone}, api.Instr{Op: api.OCall, Dst: 0, N: field, Args: []int{1}}, api.Instr{Op: api.OCallR, Dst: 1, A: 2, Args: []int{0, 1}},
		api.Instr{Op: api.OCallI, A: 3}, api.Instr{Op: api.OCallI, A: 5, N: 1, Args: []int{0}}, api.Instr{Op: api.OCallI, A: 5}))
	// The functions take 2, 2, 1, 2, 1, 2 steps.
	tells(t, p, nil, 12+10, api.AEnd, event{0, 1, 3, 1}, event{0, 5, 1, alone}, event{0, 6, 1, field}, event{0, 7, 1, second},
		event{0, 8, 1, field}, event{0, 9, 1, same}, event{0, 10, 1, field}, event{0, 11, 4, api.AEnd})
}

// What is called tells its events between those of its caller, by its own points; function 0 may be called, and main.
func TestEventsBelow(t *testing.T) {
	p := &api.Program{Records: [][]api.Type{{}}, Sigs: []api.Sig{{}}, Main: 1, Funcs: []api.Func{
		{Regs: []api.Type{num, ptr0}, Blocks: []api.Block{gives(0, api.Instr{Op: api.OAlloc, Dst: 1}, api.Instr{Op: api.OSource}, api.Instr{Op: api.OSink})}},
		{Regs: []api.Type{ptr0, num}, Blocks: []api.Block{
			{Code: []api.Instr{{Op: api.OAlloc}, {Op: api.OCall, Dst: 1}, {Op: api.OSink, A: 1}}, End: api.EBranch, Reg: 1, To: 1, Else: 2},
			gives(1, api.Instr{Op: api.OCall, Dst: 1, N: 1}),
			gives(1, api.Instr{Op: api.OAlloc}),
		}},
	}}
	may(t, p)
	got, steps, why := trace.Run(p, []int64{1}, 99)
	want := []trace.Event{{4, 3, 1}, {5, 1, 0}, {0, 3, 2}, {2, 2, 0}, {6, 2, 0}, {8, 1, 1}, {4, 3, 3}, {5, 1, 0}, {0, 3, 4}, {2, 2, 0}, {6, 2, 0}, {10, 3, 5}, {9, 4, api.AEnd}}
	if !slices.Equal(got, want) || steps != 20 || why != api.AEnd {
		t.Errorf("P15.1: %v, %d, %d, want %v", got, steps, why, want)
	}
}

// Each way to end, at the point where the run then stands; the step that ends it is one of its steps, and tells nothing else.
func TestEnds(t *testing.T) {
	regs := []api.Type{num, ptr0, fun0, iface0, fun1}
	ahead := []api.Instr{{Op: api.OConst}, {Op: api.ONil, Dst: 1}, {Op: api.ONil, Dst: 2}, {Op: api.ONil, Dst: 3}}
	for _, i := range []api.Instr{{Op: api.OLoad, A: 1}, {Op: api.OStore, A: 1, B: 0}, {Op: api.OFree, A: 1}, {Op: api.OCallR, A: 2}, {Op: api.OCallI, A: 3}} {
		p := base(regs, gives(0, append(slices.Clone(ahead), i)...))
		tells(t, p, nil, 5, api.ANil, event{0, 4, 4, api.ANil})
	}
	ahead = []api.Instr{{Op: api.OConst}, {Op: api.OAlloc, Dst: 1}, {Op: api.OFree, A: 1}}
	for _, i := range []api.Instr{{Op: api.OLoad, A: 1}, {Op: api.OStore, A: 1, B: 0}, {Op: api.OFree, A: 1}} {
		p := base(regs, gives(0, append(slices.Clone(ahead), i)...))
		tells(t, p, nil, 4, api.AFreed, event{0, 1, 3, 1}, event{0, 3, 4, api.AFreed})
	}
	// Below main.
	p := base(regs, gives(0, api.Instr{Op: api.ONil, Dst: 1}, api.Instr{Op: api.OCall, N: field, Args: []int{1}}))
	may(t, p)
	got, steps, why := trace.Run(p, nil, 99)
	if want := []trace.Event{{number(t, p, 0, 1), 1, field}, {0, 4, api.ANil}}; !slices.Equal(got, want) || steps != 3 || why != api.ANil {
		t.Errorf("P15.1: %v, %d, %d, want %v", got, steps, why, want)
	}
}

// The call that would be the sixtieth below main, and the object that would be number 401, are not told: the end is.
func TestDeep(t *testing.T) {
	p := base([]api.Type{num}, gives(0, api.Instr{Op: api.OCall, N: theMain}))
	want := slices.Repeat([]event{{0, 0, 1, theMain}}, 59)
	tells(t, p, nil, 60, api.ADeep, append(want, event{0, 0, 4, api.ADeep})...)

	p = base([]api.Type{num, ptr1}, api.Block{Code: []api.Instr{{Op: api.OAlloc, Dst: 1}}, End: api.EJump})
	want = nil
	for k := range 400 {
		want = append(want, event{0, 0, 3, k + 1})
	}
	tells(t, p, nil, 801, api.ADeep, append(want, event{0, 0, 4, api.ADeep})...)
	for _, x := range []*api.Program{p, base([]api.Type{num}, gives(0, api.Instr{Op: api.OCall, N: theMain}))} {
		if l := trace.Alarms(x, nil, 3000); len(l) > 0 {
			t.Errorf("P15.1: alarms %v of a run that goes too deep", l)
		}
	}
}

// lasting gives a program whose run lasts n steps, 2 at least, and numbers for it; it tells a sink each third step.
func lasting(n int) (*api.Program, []int64) {
	p := base([]api.Type{num},
		api.Block{Code: []api.Instr{{Op: api.OSource}, {Op: api.OSink}}, End: api.EBranch, To: 0, Else: 1},
		gives(0, slices.Repeat([]api.Instr{{Op: api.OCopy}}, (n-1)%3)...))
	oracle := slices.Repeat([]int64{1}, (n-1)/3)
	oracle[len(oracle)-1] = 0
	return p, oracle
}

func TestFuel(t *testing.T) {
	for _, n := range []int{4, 5, 6, 99, 2999, 3000, 3001, 3002, 4000} {
		p, oracle := lasting(n)
		may(t, p)
		for _, fuel := range []int{-1, 0, 1, 2, 3, 4, 5, 6, 7, n - 1, n, n + 1, 2998, 2999, 3000, 3001, 3002, 5000, 1 << 31, 1 << 32, 1<<32 + 2, -1 << 32, math.MinInt, math.MinInt + 1, math.MaxInt} {
			steps, why, ends := min(max(fuel, 0), 3000), api.AFuel, 0
			if steps >= n {
				steps, why, ends = n, api.AEnd, 1
			}
			l, got, end := trace.Run(p, oracle, fuel)
			sinks := min((steps+1)/3, (n-1)/3)
			if got != steps || end != why || len(l) != sinks+ends {
				t.Errorf("P15.1: %d steps, fuel %d: %d events, %d, %d, want %d, %d, %d", n, fuel, len(l), got, end, sinks+ends, steps, why)
			}
			if ends == 1 && l[len(l)-1] != (trace.Event{At: number(t, p, 1, (n-1)%3), Kind: 4, N: api.AEnd}) {
				t.Errorf("P15.1: %d steps, fuel %d: the end is %v", n, fuel, l[len(l)-1])
			}
			want := []api.Alarm{{Kind: api.ATaint, At: number(t, p, 0, 1)}}
			if alarms := trace.Alarms(p, oracle, fuel); !slices.Equal(alarms, want[:min(sinks, 1)]) {
				t.Errorf("P15.1: %d steps, fuel %d: alarms %v", n, fuel, alarms)
			}
		}
	}
}
