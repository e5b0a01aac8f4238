package trace_test

import (
	"slices"
	"testing"

	"haruspex/api"
	"haruspex/trace"
)

// alarms holds the alarms of a whole run: kinds with points of main.
func alarms(t *testing.T, p *api.Program, oracle []int64, fuel int, want ...event) {
	t.Helper()
	may(t, p)
	var l []api.Alarm
	for _, e := range want {
		l = append(l, api.Alarm{Kind: e.kind, At: number(t, p, e.block, e.instr)})
	}
	if got := trace.Alarms(p, oracle, fuel); !slices.Equal(got, l) {
		t.Errorf("P15.1: alarms %v, want %v", got, l)
	}
}

// backwards gives a program that sinks in its last block, then in the one ahead, and so on; then it does what follows.
func backwards(code ...api.Instr) *api.Program {
	sinks := []api.Instr{{Op: api.OSink}, {Op: api.OSink}}
	regs := []api.Type{num, ptr0, ptr0}
	return base(regs,
		api.Block{Code: []api.Instr{{Op: api.OSource}, {Op: api.OAlloc, Dst: 1}, {Op: api.ONil, Dst: 2}}, End: api.EJump, To: 4},
		gives(0, code...),
		api.Block{Code: sinks, End: api.EBranch, To: 1, Else: 4},
		api.Block{Code: sinks, End: api.EJump, To: 2},
		api.Block{Code: append([]api.Instr{{Op: api.OSource}}, sinks...), End: api.EJump, To: 3})
}

// Each once, though done more than once, and by Kind, then At, in whatever order they come.
func TestAlarms(t *testing.T) {
	sinks := []event{{2, 0, 3, 0}, {2, 1, 3, 0}, {3, 0, 3, 0}, {3, 1, 3, 0}, {4, 1, 3, 0}, {4, 2, 3, 0}}
	oracle := []int64{0, 0, 0, 1}
	alarms(t, backwards(), oracle, 3000, sinks...)
	alarms(t, backwards(api.Instr{Op: api.OFree, A: 2}), oracle, 3000, append([]event{{1, 0, 1, 0}}, sinks...)...)
	alarms(t, backwards(api.Instr{Op: api.OFree, A: 1}, api.Instr{Op: api.OFree, A: 1}), oracle, 3000, append([]event{{1, 1, 2, 0}}, sinks...)...)
	// A run that never ends has them too, and one that is cut short those of its steps.
	alarms(t, backwards(), nil, 3000, sinks...)
	alarms(t, backwards(), nil, 8, sinks[4:]...)
	alarms(t, backwards(), nil, 7, sinks[4:]...)
	alarms(t, backwards(), nil, 6, sinks[4])
	alarms(t, backwards(), nil, 5)
	alarms(t, backwards(), nil, 0)
}

// What ends a run is an alarm behind all points of others too: Kind goes ahead of At.
func TestKindAheadOfAt(t *testing.T) {
	for why, code := range map[int][]api.Instr{
		api.ANil:   {{Op: api.ONil, Dst: 1}, {Op: api.OLoad, A: 1}},
		api.AFreed: {{Op: api.OFree, A: 1}, {Op: api.OLoad, A: 1}},
		0:          {{Op: api.OConst}, {Op: api.OSink}},
	} {
		p := base([]api.Type{num, ptr0}, gives(0, append([]api.Instr{{Op: api.OAlloc, Dst: 1}, {Op: api.OSource}, {Op: api.OSink}, {Op: api.OSink}}, code...)...))
		want := []event{{0, 2, api.ATaint, 0}, {0, 3, api.ATaint, 0}}
		if why > 0 {
			want = append([]event{{0, 5, why, 0}}, want...)
		}
		alarms(t, p, nil, 3000, want...)
		// The step that ends the run is the sixth.
		alarms(t, p, nil, 6, want...)
		alarms(t, p, nil, 5, want[len(want)-2:]...)
	}
}

// A sink is an alarm only where what comes from without goes through it, if only once of many times.
func TestSomeTainted(t *testing.T) {
	p := base([]api.Type{num, num},
		api.Block{Code: []api.Instr{{Op: api.OConst}}, End: api.EJump, To: 1},
		api.Block{Code: []api.Instr{{Op: api.OSink}, {Op: api.OSource, Dst: 1}}, End: api.EBranch, Reg: 1, To: 2, Else: 1},
		api.Block{Code: []api.Instr{{Op: api.OCopy, A: 1}, {Op: api.OSource, Dst: 1}}, End: api.EBranch, Reg: 1, To: 3, Else: 1},
		gives(0))
	alarms(t, p, []int64{0, 0, 1, 1}, 3000)
	alarms(t, p, []int64{0, 0, 1, 0, 1, 1}, 3000, event{1, 0, api.ATaint, 0})
}

// calls holds the calls of a run: kinds with points of main, to functions.
func calls(t *testing.T, p *api.Program, oracle []int64, fuel int, want ...event) {
	t.Helper()
	may(t, p)
	var l []api.Edge
	for _, e := range want {
		l = append(l, api.Edge{At: number(t, p, e.block, e.instr), To: e.n})
	}
	if got := trace.Calls(p, oracle, fuel); !slices.Equal(got, l) {
		t.Errorf("P15.1: calls %v, want %v", got, l)
	}
}

// Each once, and by At, then To, in whatever order they come.
func TestCallsOnceAndInOrder(t *testing.T) {
	p := base([]api.Type{num, ptr0, ptr1, iface0, fun1, fun3, num},
		api.Block{Code: []api.Instr{{Op: api.OConst, Dst: 0}, {Op: api.OAlloc, Dst: 1}, {Op: api.OAlloc, Dst: 2}, {Op: api.OMake, Dst: 3, A: 2}}, End: api.EJump, To: 3},
		api.Block{Code: []api.Instr{{Op: api.OSource}}, End: api.EBranch, To: 2, Else: 3},
		gives(0, api.Instr{Op: api.OCall, Dst: 4, N: alone}),
		api.Block{Code: []api.Instr{
			{Op: api.OCallI, Dst: 6, A: 3}, {Op: api.OMake, Dst: 3, A: 1}, {Op: api.OCall, Dst: 6, N: same, Args: []int{1, 6}}, {Op: api.OCall, Dst: 6, N: twice, Args: []int{2, 6}},
		}, End: api.EJump, To: 1})
	calls(t, p, []int64{1}, 3000, event{2, 0, 0, alone}, event{3, 0, 0, eleven}, event{3, 2, 0, same}, event{3, 3, 0, twice})
	calls(t, p, []int64{0, 1}, 3000, event{2, 0, 0, alone}, event{3, 0, 0, field}, event{3, 0, 0, eleven}, event{3, 2, 0, same}, event{3, 3, 0, twice})
	calls(t, p, nil, 3000, event{3, 0, 0, field}, event{3, 0, 0, eleven}, event{3, 2, 0, same}, event{3, 3, 0, twice})
	calls(t, p, nil, 6, event{3, 0, 0, eleven})
	calls(t, p, nil, 5)
	calls(t, p, nil, 0)
}

// A call that does not come about is none: of nil, or too deep.
func TestCallsThatFail(t *testing.T) {
	p := base([]api.Type{num, fun0, iface0}, gives(0, api.Instr{Op: api.ONil, Dst: 1}, api.Instr{Op: api.OCallR, A: 1}))
	calls(t, p, nil, 3000)
	p = base([]api.Type{num, fun0, iface0}, gives(0, api.Instr{Op: api.ONil, Dst: 2}, api.Instr{Op: api.OCallI, A: 2}))
	calls(t, p, nil, 3000)
	// At sixty frames another point calls than below.
	p = base([]api.Type{num},
		api.Block{Code: []api.Instr{{Op: api.OSource}}, End: api.EBranch, To: 1, Else: 2},
		gives(0, api.Instr{Op: api.OCall, N: theMain}), gives(0, api.Instr{Op: api.OCall, N: theMain}))
	oracle := make([]int64, 60)
	oracle[59] = 1
	calls(t, p, oracle, 3000, event{2, 0, 0, theMain})
	oracle[58] = 1
	calls(t, p, oracle, 3000, event{1, 0, 0, theMain}, event{2, 0, 0, theMain})
}

// Calls and alarms of what is called are told by its points.
func TestToldBelow(t *testing.T) {
	p := base([]api.Type{num}, gives(0, api.Instr{Op: api.OCall, N: theMain + 1}))
	p.Funcs = append(p.Funcs, api.Func{Regs: []api.Type{num, fun1}, Blocks: []api.Block{
		gives(0, api.Instr{Op: api.OSource}, api.Instr{Op: api.OSink}, api.Instr{Op: api.OCall, Dst: 1, N: alone}, api.Instr{Op: api.OSink})}})
	may(t, p)
	first := number(t, p, 0, 0)
	if got, want := trace.Calls(p, nil, 99), []api.Edge{{At: first, To: theMain + 1}, {At: first + 4, To: alone}}; !slices.Equal(got, want) {
		t.Errorf("P15.1: calls %v, want %v", got, want)
	}
	if got, want := trace.Alarms(p, nil, 99), []api.Alarm{{Kind: 3, At: first + 3}, {Kind: 3, At: first + 5}}; !slices.Equal(got, want) {
		t.Errorf("P15.1: alarms %v, want %v", got, want)
	}
}
