package code

import "haruspex/api"

// writer gathers bytes. Once it has too many it takes no more: lists may be far longer than what may be written of them.
type writer struct {
	bytes []byte
}

// full tells whether there are more bytes than there may be.
func (w *writer) full() bool { return len(w.bytes) > api.MaxBytes }

func (w *writer) number(n int) {
	if w.full() {
		return
	}
	u := fold(n)
	for ; u > low; u >>= width {
		w.bytes = append(w.bytes, byte(u&low)|more)
	}
	w.bytes = append(w.bytes, byte(u))
}

// writeList writes the length of list and then its parts, by a method that writes one.
func writeList[T any](w *writer, list []T, part func(*writer, T)) {
	w.number(len(list))
	for k := range list {
		if w.full() {
			return
		}
		part(w, list[k])
	}
}

func (w *writer) numbers(list []int) { writeList(w, list, (*writer).number) }

func (w *writer) kind(t api.Type) {
	w.number(t.Kind)
	w.number(t.N)
}

func (w *writer) kinds(list []api.Type) { writeList(w, list, (*writer).kind) }

func (w *writer) sig(s api.Sig) {
	w.kinds(s.Params)
	w.kind(s.Result)
}

func (w *writer) iface(i api.Iface) { w.numbers(i.Sigs) }

func (w *writer) impl(i api.Impl) {
	w.number(i.Rec)
	w.number(i.Iface)
	w.numbers(i.Funcs)
}

func (w *writer) instr(i api.Instr) {
	w.number(i.Op)
	w.number(i.Dst)
	w.number(i.A)
	w.number(i.B)
	w.number(i.N)
	w.numbers(i.Args)
}

func (w *writer) block(b api.Block) {
	writeList(w, b.Code, (*writer).instr)
	w.number(b.End)
	w.number(b.Reg)
	w.number(b.To)
	w.number(b.Else)
}

func (w *writer) function(f api.Func) {
	w.number(f.Sig)
	w.kinds(f.Regs)
	writeList(w, f.Blocks, (*writer).block)
}

func (w *writer) program(p *api.Program) {
	writeList(w, p.Records, (*writer).kinds)
	writeList(w, p.Sigs, (*writer).sig)
	writeList(w, p.Ifaces, (*writer).iface)
	writeList(w, p.Impls, (*writer).impl)
	writeList(w, p.Funcs, (*writer).function)
	w.number(p.Main)
}
