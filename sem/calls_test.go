package sem_test

import (
	"testing"

	"haruspex/api"
	"haruspex/sem"
)

// calls does a step that is to call f, and holds the new frame and its registers.
func calls(t *testing.T, p *api.Program, m *sem.Machine, f int, args ...any) {
	t.Helper()
	depth := m.Depth()
	walk(t, m, 1)
	if m.Called() != f || m.Called() != f || m.Sunk() {
		t.Fatalf("P14.2: Called %d, want %d", m.Called(), f)
	}
	stands(t, p, m, api.Point{F: f}, depth+1)
	reads(t, m, args...)
}

// returns does a step that is to return to q.
func returns(t *testing.T, p *api.Program, m *sem.Machine, q api.Point) {
	t.Helper()
	depth := m.Depth()
	walk(t, m, 1)
	quiet(t, m)
	stands(t, p, m, q, depth-1)
}

func TestCalls(t *testing.T) {
	p := base([]api.Type{num, ptr0, ptr0, fun3, num}, gives(0,
		api.Instr{Op: api.OConst, N: 6}, api.Instr{Op: api.OAlloc, Dst: 1}, api.Instr{Op: api.OFun, Dst: 3, N: second},
		api.Instr{Op: api.OCall, Dst: 2, N: second, Args: []int{0, 1}},
		api.Instr{Op: api.OCallR, Dst: 2, A: 3, Args: []int{0, 2}},
		api.Instr{Op: api.OCall, Dst: 4, N: same, Args: []int{2, 0}},
		api.Instr{Op: api.OCall, Dst: 0, N: same, Args: []int{2, 0}},
		api.Instr{Op: api.OCall, Dst: 0, N: field, Args: []int{2}}))
	m := start(t, p)
	here := func(i int) api.Point { return api.Point{F: theMain, I: i} }
	six, one, f := api.Value{N: 6}, api.Value{Kind: api.VPtr, N: 1}, api.Value{Kind: api.VFun, N: second}
	walk(t, m, 3)
	calls(t, p, m, second, six, one)
	returns(t, p, m, here(4))
	reads(t, m, six, one, one, f)
	calls(t, p, m, second, six, one)
	returns(t, p, m, here(5))
	reads(t, m, six, one, one, f)
	calls(t, p, m, same, one, six)
	returns(t, p, m, here(6))
	reads(t, m, six, one, one, f, six)
	// What is defined may be an argument too.
	calls(t, p, m, same, one, six)
	returns(t, p, m, here(7))
	reads(t, m, six, one, one, f, six)
	calls(t, p, m, field, one)
	walk(t, m, 1)
	quiet(t, m)
	reads(t, m, one, api.Value{})
	returns(t, p, m, here(8))
	reads(t, m, api.Value{}, one, one, f, six)
	ends(t, m, api.AEnd)
}

// Which function a method is hangs on the object's record, on the interface and on the method's number.
func TestMethods(t *testing.T) {
	p := base([]api.Type{num, num, ptr0, ptr1, iface0, iface1}, api.Block{Code: []api.Instr{
		{Op: api.OConst, N: 6}, {Op: api.OAlloc, Dst: 2}, {Op: api.OAlloc, Dst: 3}, {Op: api.OStore, A: 2, B: 0},
		{Op: api.OMake, Dst: 4, A: 2}, {Op: api.OMake, Dst: 5, A: 3},
		{Op: api.OCallI, Dst: 1, A: 4}, {Op: api.OCallI, Dst: 1, A: 5}, {Op: api.OCallI, Dst: 1, A: 5, N: 1, Args: []int{0}},
		{Op: api.OMake, Dst: 4, A: 3}, {Op: api.OMake, Dst: 5, A: 2},
		{Op: api.OCallI, Dst: 1, A: 4}, {Op: api.OCallI, Dst: 1, A: 5}, {Op: api.OCallI, Dst: 1, A: 5, N: 1, Args: []int{0}},
	}, End: api.EJump, To: 1}, gives(1))
	m := start(t, p)
	six, one, two := api.Value{N: 6}, api.Value{Kind: api.VPtr, N: 1}, api.Value{Kind: api.VPtr, N: 2}
	walk(t, m, 6)
	for _, x := range []struct {
		skip, f int
		args    []any
		steps   int
		result  api.Value
		at      int
	}{
		{0, field, []any{one}, 1, six, 7},
		{0, eleven, []any{two}, 1, api.Value{N: 11}, 8},
		{0, twice, []any{two, six}, 1, api.Value{N: 12}, 9},
		{2, eleven, []any{two}, 1, api.Value{N: 11}, 12},
		{0, field, []any{one}, 1, six, 13},
		{0, same, []any{one, six}, 0, six, 14},
	} {
		walk(t, m, x.skip)
		calls(t, p, m, x.f, x.args...)
		walk(t, m, x.steps)
		returns(t, p, m, api.Point{F: theMain, I: x.at})
		if v, ok := m.Reg(1); v != x.result || !ok {
			t.Errorf("P14.1: function %d gave %v, %t, want %v", x.f, v, ok, x.result)
		}
	}
}

// A method of what is free is called; only who follows the pointer there ends the run.
func TestMethodsOfFreeObjects(t *testing.T) {
	p := base([]api.Type{num, ptr0, ptr1, iface0, iface0}, gives(0,
		api.Instr{Op: api.OAlloc, Dst: 1}, api.Instr{Op: api.OAlloc, Dst: 2}, api.Instr{Op: api.OMake, Dst: 3, A: 1}, api.Instr{Op: api.OMake, Dst: 4, A: 2},
		api.Instr{Op: api.OFree, A: 1}, api.Instr{Op: api.OFree, A: 2}, api.Instr{Op: api.OCallI, A: 4}, api.Instr{Op: api.OCallI, A: 3}))
	m := start(t, p)
	walk(t, m, 6)
	calls(t, p, m, eleven, api.Value{Kind: api.VPtr, N: 2})
	walk(t, m, 1)
	returns(t, p, m, api.Point{F: theMain, I: 7})
	calls(t, p, m, field, api.Value{Kind: api.VPtr, N: 1})
	ends(t, m, api.AFreed)
	stands(t, p, m, api.Point{F: field}, 2)
}

// What is nil and what is free are followed by each instruction that follows: the run stays there.
func TestWhatIsFollowed(t *testing.T) {
	regs := []api.Type{num, ptr0, ptr0, fun1, iface0, {Kind: api.TFun}, iface1}
	load, loadPtr := api.Instr{Op: api.OLoad, A: 1}, api.Instr{Op: api.OLoad, Dst: 2, A: 1, N: 1}
	store, storePtr := api.Instr{Op: api.OStore, A: 1, B: 0}, api.Instr{Op: api.OStore, A: 1, B: 2, N: 1}
	free := api.Instr{Op: api.OFree, A: 1}
	setNil := []api.Instr{{Op: api.OConst, N: 4}, {Op: api.ONil, Dst: 1}, {Op: api.OAlloc, Dst: 2}, {Op: api.ONil, Dst: 3}, {Op: api.OMake, Dst: 4, A: 1}, {Op: api.ONil, Dst: 5}, {Op: api.ONil, Dst: 6}}
	loadNil := []api.Instr{{Op: api.OConst, N: 4}, {Op: api.OAlloc, Dst: 2}, {Op: api.OLoad, Dst: 1, A: 2, N: 1}}
	setFree := []api.Instr{{Op: api.OConst, N: 4}, {Op: api.OAlloc, Dst: 2}, {Op: api.OAlloc, Dst: 1}, free}
	storeFree := []api.Instr{{Op: api.OConst, N: 4}, {Op: api.OAlloc, Dst: 1}, {Op: api.OAlloc, Dst: 2}, {Op: api.OStore, A: 2, B: 1, N: 1}, free, {Op: api.OLoad, Dst: 1, A: 2, N: 1}}
	for _, x := range []struct {
		ahead []api.Instr
		i     api.Instr
		why   int
	}{
		{setNil, load, api.ANil}, {setNil, loadPtr, api.ANil}, {setNil, store, api.ANil}, {setNil, storePtr, api.ANil}, {setNil, free, api.ANil},
		{loadNil, load, api.ANil}, {loadNil, loadPtr, api.ANil}, {loadNil, store, api.ANil}, {loadNil, storePtr, api.ANil}, {loadNil, free, api.ANil},
		{setFree, load, api.AFreed}, {setFree, loadPtr, api.AFreed}, {setFree, store, api.AFreed}, {setFree, storePtr, api.AFreed}, {setFree, free, api.AFreed},
		{storeFree, load, api.AFreed}, {storeFree, loadPtr, api.AFreed}, {storeFree, store, api.AFreed}, {storeFree, storePtr, api.AFreed}, {storeFree, free, api.AFreed},
		{setNil, api.Instr{Op: api.OCallR, A: 3, Args: []int{2}}, api.ANil},
		{setNil, api.Instr{Op: api.OCallR, A: 5}, api.ANil},
		{setNil, api.Instr{Op: api.OCallI, A: 4}, api.ANil},
		{setNil, api.Instr{Op: api.OCallI, A: 6}, api.ANil},
		{setNil, api.Instr{Op: api.OCallI, A: 6, N: 1, Args: []int{0}}, api.ANil},
	} {
		p := base(regs, gives(0, append(x.ahead[:len(x.ahead):len(x.ahead)], x.i)...))
		m := start(t, p)
		walk(t, m, len(x.ahead))
		ends(t, m, x.why)
		stands(t, p, m, api.Point{F: theMain, I: len(x.ahead)}, 1)
		if m.Result() != (api.Value{}) {
			t.Errorf("P14.2: a result %v", m.Result())
		}
	}
}

// A register that has no value yet gets none from what ends the run.
func TestWhatEndsDefinesNothing(t *testing.T) {
	regs := []api.Type{num, ptr0, iface0, fun1, num}
	for _, i := range []api.Instr{{Op: api.OLoad, A: 1}, {Op: api.OCallI, A: 2}, {Op: api.OCallR, A: 3, Args: []int{1}}} {
		p := base(regs, gives(0, api.Instr{Op: api.ONil, Dst: 1}, api.Instr{Op: api.ONil, Dst: 2}, api.Instr{Op: api.ONil, Dst: 3}, i))
		m := start(t, p)
		walk(t, m, 3)
		ends(t, m, api.ANil)
		reads(t, m, nil, nothing, nothing, nothing)
	}
}

// A run may end below main: the frames stay.
func TestEndsBelowMain(t *testing.T) {
	p := base([]api.Type{num, ptr0}, gives(0, api.Instr{Op: api.ONil, Dst: 1}, api.Instr{Op: api.OCall, N: field, Args: []int{1}}))
	m := start(t, p)
	walk(t, m, 1)
	calls(t, p, m, field, nothing)
	ends(t, m, api.ANil)
	stands(t, p, m, api.Point{F: field}, 2)
	reads(t, m, nothing)
}

// Main may be called like others: it ends the run only where nobody called it.
func TestMainIsCalled(t *testing.T) {
	p := base([]api.Type{num, num},
		api.Block{Code: []api.Instr{{Op: api.OSource}}, End: api.EBranch, To: 1, Else: 2},
		gives(1, api.Instr{Op: api.OCall, Dst: 1, N: theMain}, api.Instr{Op: api.OAdd, Dst: 1, A: 1, B: 0}), gives(0))
	m := start(t, p, 5, 6)
	walk(t, m, 2)
	calls(t, p, m, theMain)
	walk(t, m, 2)
	calls(t, p, m, theMain)
	walk(t, m, 2)
	stands(t, p, m, api.Point{F: theMain, B: 2}, 3)
	returns(t, p, m, api.Point{F: theMain, B: 1, I: 1})
	if m.Result() != (api.Value{}) {
		t.Errorf("P14.2: a result %v of a main that was called", m.Result())
	}
	walk(t, m, 1)
	returns(t, p, m, api.Point{F: theMain, B: 1, I: 1})
	reads(t, m, api.Value{N: 5, Taint: true}, api.Value{N: 6, Taint: true})
	walk(t, m, 1)
	ends(t, m, api.AEnd)
	if m.Result() != (api.Value{N: 11, Taint: true}) {
		t.Errorf("P14.2: the result is %v", m.Result())
	}
}

// Frames of one function have their own registers; a call behind a return finds none of the one ahead.
func TestFramesAreApart(t *testing.T) {
	p := base([]api.Type{num}, gives(0, api.Instr{Op: api.OConst, N: 2}, api.Instr{Op: api.OCall, N: theMain + 1, Args: []int{0}}))
	// It calls itself twice with 1 less, until that is 0.
	p.Funcs = append(p.Funcs, api.Func{Sig: 6, Regs: []api.Type{num, num, num}, Blocks: []api.Block{
		{End: api.EBranch, To: 1, Else: 2},
		gives(2, api.Instr{Op: api.OConst, Dst: 1, N: -1}, api.Instr{Op: api.OAdd, Dst: 1, A: 1, B: 0},
			api.Instr{Op: api.OCall, Dst: 2, N: theMain + 1, Args: []int{1}}, api.Instr{Op: api.OCall, Dst: 2, N: theMain + 1, Args: []int{1}}),
		gives(0),
	}})
	m := start(t, p)
	walk(t, m, 1)
	f := theMain + 1
	calls(t, p, m, f, api.Value{N: 2})
	walk(t, m, 3)
	for range 2 {
		calls(t, p, m, f, api.Value{N: 1})
		walk(t, m, 3)
		for k := range 2 {
			calls(t, p, m, f, api.Value{})
			walk(t, m, 1)
			returns(t, p, m, api.Point{F: f, B: 1, I: 3 + k})
			reads(t, m, api.Value{N: 1}, api.Value{}, api.Value{})
		}
		walk(t, m, 1)
		if v, _ := m.Reg(1); v != (api.Value{N: 1}) || m.Depth() != 2 {
			t.Fatalf("P14.1: %v with %d frames", v, m.Depth())
		}
	}
	walk(t, m, 1)
	stands(t, p, m, api.Point{F: theMain, I: 2}, 1)
	ends(t, m, api.AEnd)
}

// deep gives a program that has n frames below main at most, and calls by op.
func deep(n, op int) *api.Program {
	call := api.Instr{Op: op, Dst: 1}
	switch op {
	case api.OCall:
		call.N, call.Args = theMain+1, []int{3, 0}
	case api.OCallR:
		call.A, call.Args = 5, []int{3, 0}
	case api.OCallI:
		call.A, call.Args = 4, []int{0}
	}
	code := []api.Instr{{Op: api.OConst, Dst: 2, N: -1}, {Op: api.OAdd, Dst: 0, A: 0, B: 2}, {Op: api.OMake, Dst: 4, A: 3}, {Op: api.OFun, Dst: 5, N: theMain + 1}, call}
	regs := []api.Type{num, num, num, ptr0, {Kind: api.TIface, N: 2}, {Kind: api.TFun, N: 4}}
	main := append([]api.Instr{{Op: api.OConst, N: n}, {Op: api.OAlloc, Dst: 3}}, code...)
	p := base(regs, gives(1, main...))
	p.Ifaces = append(p.Ifaces, api.Iface{Sigs: []int{6}})
	p.Impls = append(p.Impls, api.Impl{Iface: 2, Funcs: []int{theMain + 1}})
	// The same with the receiver ahead: registers are moved to where main has them.
	regs = []api.Type{ptr0, num, num, ptr0, {Kind: api.TIface, N: 2}, {Kind: api.TFun, N: 4}, num}
	inner := []api.Instr{{Op: api.OCopy, Dst: 3}, {Op: api.OConst, Dst: 2, N: -1}, {Op: api.OAdd, Dst: 6, A: 1, B: 2}, {Op: api.OMake, Dst: 4, A: 3}, {Op: api.OFun, Dst: 5, N: theMain + 1}, call}
	last := &inner[len(inner)-1]
	last.Args = append([]int(nil), call.Args...)
	last.Args[len(last.Args)-1] = 6
	p.Funcs = append(p.Funcs, api.Func{Sig: 4, Regs: regs, Blocks: []api.Block{{End: api.EBranch, Reg: 1, To: 1, Else: 2}, gives(1, inner...), gives(1)}})
	return p
}

// Sixty frames there may be, whatever calls.
func TestDepth(t *testing.T) {
	for _, op := range []int{api.OCall, api.OCallR, api.OCallI} {
		for n := 57; n < 63; n++ {
			p := deep(n, op)
			m := start(t, p)
			most, why, called := 0, 0, 0
			for why == 0 {
				why = m.Step()
				most = max(most, m.Depth())
				if m.Called() >= 0 {
					called++
				}
			}
			// Main has n-1 left when it calls the first: there are n of them, and main.
			if n < api.MaxDepth && (why != api.AEnd || most != n+1 || called != n || m.Result() != (api.Value{})) {
				t.Errorf("P14.1: %d frames below main by %d: %d, most %d, %d calls, %v", n, op, why, most, called, m.Result())
			}
			if n >= api.MaxDepth && (why != api.ADeep || most != api.MaxDepth || called != api.MaxDepth-1) {
				t.Errorf("P14.1: %d frames below main by %d: %d, most %d, %d calls", n, op, why, most, called)
			}
			if why == api.ADeep {
				ends(t, m, api.ADeep)
				stands(t, p, m, api.Point{F: theMain + 1, B: 1, I: 5}, api.MaxDepth)
			}
		}
	}
}

// With 60 frames all but calls is done as ever, and a nil is called by nobody: it is nil, not too deep.
func TestNilAtSixtyFrames(t *testing.T) {
	for _, i := range []api.Instr{{Op: api.OCallR, A: 1}, {Op: api.OCallI, A: 2}} {
		p := base([]api.Type{num, {Kind: api.TFun}, iface0},
			api.Block{Code: []api.Instr{{Op: api.OSource}, {Op: api.ONil, Dst: 1}, {Op: api.ONil, Dst: 2}}, End: api.EBranch, To: 1, Else: 2},
			gives(0, i), gives(0, api.Instr{Op: api.OCall, N: theMain}))
		oracle := make([]int64, 60)
		oracle[59] = 1
		m := start(t, p, oracle...)
		for m.Depth() < api.MaxDepth {
			walk(t, m, 1)
		}
		walk(t, m, 4)
		ends(t, m, api.ANil)
		stands(t, p, m, api.Point{F: theMain, B: 1}, api.MaxDepth)
	}
}

// Four hundred objects there may be, free ones among them.
func TestObjects(t *testing.T) {
	for free := range 2 {
		code := []api.Instr{{Op: api.OAlloc, Dst: 1}, {Op: api.OAlloc, Dst: 2}}
		if free == 1 {
			code = append(code, api.Instr{Op: api.OFree, A: 1}, api.Instr{Op: api.OFree, A: 2})
		}
		p := base([]api.Type{num, ptr0, ptr1}, api.Block{Code: code, End: api.EJump})
		m := start(t, p)
		walk(t, m, 200*(len(code)+1))
		stands(t, p, m, api.Point{F: theMain}, 1)
		last, _ := m.Reg(2)
		if h := m.Heap(); h.Len() != api.MaxHeap || last != (api.Value{Kind: api.VPtr, N: 400}) || h.Freed(400) != (free == 1) || h.Site(400) != m.At()+1 || h.Site(399) != m.At() {
			t.Errorf("P14.1: %d objects, the last one %v from %d", h.Len(), last, h.Site(400))
		}
		ends(t, m, api.ADeep)
	}
}

// An object's record is that of the register that it was made for, whatever is made ahead of it.
func TestRecords(t *testing.T) {
	p := base([]api.Type{num, ptr0, ptr1, iface0},
		api.Block{Code: []api.Instr{{Op: api.OSource}}, End: api.EBranch, To: 1, Else: 2},
		api.Block{Code: []api.Instr{{Op: api.OAlloc, Dst: 1}, {Op: api.OMake, Dst: 3, A: 1}}, End: api.EJump, To: 3},
		api.Block{Code: []api.Instr{{Op: api.OAlloc, Dst: 2}, {Op: api.OMake, Dst: 3, A: 2}}, End: api.EJump, To: 3},
		api.Block{Code: []api.Instr{{Op: api.OCallI, A: 3}}, End: api.EJump})
	m := start(t, p, 1, 0, 0, 1, 1, 0)
	got := []int{}
	for len(got) < 6 {
		walk(t, m, 1)
		if m.Called() >= 0 {
			got = append(got, m.Called())
		}
	}
	for k, f := range []int{field, eleven, eleven, field, field, eleven} {
		if got[k] != f {
			t.Errorf("P14.1: the method number %d is %d, want %d", k, got[k], f)
		}
	}
}

// Functions and interfaces that stand in objects are called as they were put there.
func TestCallsThroughObjects(t *testing.T) {
	p := base([]api.Type{num, ptr0, ptr1, iface0, fun1}, gives(0,
		api.Instr{Op: api.OAlloc, Dst: 1}, api.Instr{Op: api.OAlloc, Dst: 2}, api.Instr{Op: api.OFun, Dst: 4, N: field}, api.Instr{Op: api.OMake, Dst: 3, A: 1},
		api.Instr{Op: api.OStore, A: 2, B: 3}, api.Instr{Op: api.OStore, A: 2, B: 4, N: 1}, api.Instr{Op: api.ONil, Dst: 3}, api.Instr{Op: api.OCall, Dst: 4, N: alone},
		api.Instr{Op: api.OLoad, Dst: 3, A: 2}, api.Instr{Op: api.OLoad, Dst: 4, A: 2, N: 1},
		api.Instr{Op: api.OCallI, A: 3}, api.Instr{Op: api.OCallR, A: 4, Args: []int{1}}))
	m := start(t, p)
	one := api.Value{Kind: api.VPtr, N: 1}
	walk(t, m, 7)
	calls(t, p, m, alone)
	walk(t, m, 1)
	returns(t, p, m, api.Point{F: theMain, I: 8})
	if v, ok := m.Reg(4); v != nothing || !ok {
		t.Errorf("P14.1: a nil that is given back: %v, %t", v, ok)
	}
	walk(t, m, 2)
	calls(t, p, m, field, one)
	walk(t, m, 1)
	returns(t, p, m, api.Point{F: theMain, I: 11})
	calls(t, p, m, field, one)
	walk(t, m, 1)
	returns(t, p, m, api.Point{F: theMain, I: 12})
	ends(t, m, api.AEnd)
}
