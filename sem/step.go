package sem

import (
	"haruspex/api"
	"haruspex/ir"
	"haruspex/value"
)

// do does what stands at the point of the frame above; it gives 0, or how that ended the run.
func (m *Machine) do() int {
	fr := m.top()
	b := m.block(fr)
	if fr.at.I == len(b.Code) {
		return m.end(fr, b)
	}
	i := b.Code[fr.at.I]
	switch i.Op {
	case api.OCall, api.OCallR, api.OCallI:
		return m.call(fr, i)
	}
	why := m.instr(fr, i)
	if why == 0 {
		fr.at.I++
	}
	return why
}

// block gives the block in which the frame stands.
func (m *Machine) block(fr *frame) *api.Block { return &m.p.Funcs[fr.at.F].Blocks[fr.at.B] }

// regType gives the type of the frame's register r.
func (m *Machine) regType(fr *frame, r int) api.Type { return m.p.Funcs[fr.at.F].Regs[r] }

// get gives the value of a register that has one: the program may be, so that those that it reads do.
func (fr *frame) get(r int) api.Value { return fr.regs[r].v }

func (fr *frame) set(r int, v api.Value) { fr.regs[r] = register{v, true} }

// end does the end of the block b.
func (m *Machine) end(fr *frame, b *api.Block) int {
	to := b.To
	switch {
	case b.End == api.EReturn:
		return m.giveBack(fr.get(b.Reg))
	case b.End == api.EBranch && fr.get(b.Reg).N == 0:
		to = b.Else
	}
	fr.at = api.Point{F: fr.at.F, B: to}
	return 0
}

// giveBack lets the frame above return v; main's own stays, so that its registers can be read behind the end.
func (m *Machine) giveBack(v api.Value) int {
	if len(m.frames) == 1 {
		m.result = v
		return api.AEnd
	}
	m.frames = m.frames[:len(m.frames)-1]
	fr := m.top()
	fr.set(m.block(fr).Code[fr.at.I].Dst, v)
	fr.at.I++
	return 0
}

// instr does i, which is no call.
func (m *Machine) instr(fr *frame, i api.Instr) int {
	switch i.Op {
	case api.OConst:
		fr.set(i.Dst, api.Value{Kind: api.VInt, N: int64(i.N)})
	case api.OAdd:
		fr.set(i.Dst, value.Add(fr.get(i.A), fr.get(i.B)))
	case api.OSource:
		fr.set(i.Dst, m.source())
	case api.ONil:
		fr.set(i.Dst, api.Value{Kind: api.VNil})
	case api.OAlloc:
		return m.alloc(fr, i.Dst)
	case api.OCopy, api.OMake:
		// An interface holds the pointer itself: its object tells the record.
		fr.set(i.Dst, fr.get(i.A))
	case api.OLoad:
		return m.load(fr, i)
	case api.OStore:
		return m.heap.Set(object(fr.get(i.A)), i.N, fr.get(i.B))
	case api.OFree:
		return m.heap.Free(object(fr.get(i.A)))
	case api.OFun:
		fr.set(i.Dst, api.Value{Kind: api.VFun, N: int64(i.N)})
	case api.OSink:
		m.last.sunk = fr.get(i.A).Taint
	}
	return 0
}

// object gives the number of the object to which v leads; of nil 0, of which the heap says that it is none.
func object(v api.Value) int64 {
	if v.Kind != api.VPtr {
		return 0
	}
	return v.N
}

// source gives what comes from without next.
func (m *Machine) source() api.Value {
	v := api.Value{Kind: api.VInt, Taint: true}
	if len(m.oracle) > 0 {
		v.N, m.oracle = m.oracle[0], m.oracle[1:]
	}
	return v
}

// alloc lets dst lead to a new object.
func (m *Machine) alloc(fr *frame, dst int) int {
	rec := m.regType(fr, dst).N
	o := m.heap.Alloc(ir.Number(m.p, fr.at), m.p.Records[rec])
	if o == 0 {
		return api.ADeep
	}
	m.recs = append(m.recs, rec)
	fr.set(dst, api.Value{Kind: api.VPtr, N: o})
	return 0
}

func (m *Machine) load(fr *frame, i api.Instr) int {
	v, why := m.heap.Get(object(fr.get(i.A)), i.N)
	if why == 0 {
		fr.set(i.Dst, v)
	}
	return why
}

// call makes a frame of what i calls. That i is done, and its frame goes on, shows when that one returns.
func (m *Machine) call(fr *frame, i api.Instr) int {
	f, ok := m.callee(fr, i)
	if !ok {
		return api.ANil
	}
	if len(m.frames) >= api.MaxDepth {
		return api.ADeep
	}
	next := frame{at: api.Point{F: f}}
	for k, r := range passed(i) {
		next.set(k, fr.get(r))
	}
	m.frames = append(m.frames, next)
	m.last.calls, m.last.f = true, f
	return 0
}

// passed gives the registers whose values are the parameters of what i calls.
func passed(i api.Instr) []int {
	if i.Op == api.OCallI {
		return ir.Uses(i)
	}
	return i.Args
}

// callee gives the function that i calls; false: what it follows is nil.
func (m *Machine) callee(fr *frame, i api.Instr) (int, bool) {
	if i.Op == api.OCall {
		return i.N, true
	}
	switch v := fr.get(i.A); v.Kind {
	case api.VFun:
		return int(v.N), true
	case api.VPtr:
		return m.method(m.recs[v.N-1], m.regType(fr, i.A).N, i.N)
	}
	return 0, false
}

// method gives the function that is the method n of the interface for the record. There is one: a pointer becomes an
// interface only where there is an Impl.
func (m *Machine) method(rec, iface, n int) (int, bool) {
	for k := range m.p.Impls {
		if x := &m.p.Impls[k]; x.Rec == rec && x.Iface == iface {
			return x.Funcs[n], true
		}
	}
	return 0, false
}
