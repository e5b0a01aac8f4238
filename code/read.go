package code

import "haruspex/api"

// reader takes bytes. Once something was wrong it has none left, and all that it gives is zero: who asks need look but once, at the end.
type reader struct {
	rest []byte
	bad  bool
}

// fail drops the rest, so that each list that is still read ends at once.
func (r *reader) fail() {
	r.rest, r.bad = nil, true
}

func (r *reader) number() int {
	var u uint64
	for k, b := range r.rest {
		// Nothing beyond 64 bits, and no bits of 0 alone on top: they say nothing, a number has one form.
		if k == longest-1 && b > last || k > 0 && b == 0 {
			break
		}
		u |= uint64(b&low) << (width * k)
		if b < more {
			r.rest = r.rest[k+1:]
			return unfold(u)
		}
	}
	r.fail()
	return 0
}

// length reads that of a list. Each part takes a byte at least, so what is greater than the rest need not be given room.
func (r *reader) length() int {
	n := r.number()
	if n < 0 || n > len(r.rest) {
		r.fail()
		return 0
	}
	return n
}

// readList reads a list, by a method that reads one of its parts.
func readList[T any](r *reader, part func(*reader) T) []T {
	n := r.length()
	if n == 0 {
		return nil
	}
	list := make([]T, n)
	for k := range list {
		list[k] = part(r)
		if r.bad {
			return nil
		}
	}
	return list
}

// In the literals below the fields stand in the order of their bytes: Go makes the calls in them from left to right.

func (r *reader) numbers() []int { return readList(r, (*reader).number) }

func (r *reader) kind() api.Type {
	return api.Type{Kind: r.number(), N: r.number()}
}

func (r *reader) kinds() []api.Type { return readList(r, (*reader).kind) }

func (r *reader) sig() api.Sig {
	return api.Sig{Params: r.kinds(), Result: r.kind()}
}

func (r *reader) iface() api.Iface {
	return api.Iface{Sigs: r.numbers()}
}

func (r *reader) impl() api.Impl {
	return api.Impl{Rec: r.number(), Iface: r.number(), Funcs: r.numbers()}
}

func (r *reader) instr() api.Instr {
	return api.Instr{Op: r.number(), Dst: r.number(), A: r.number(), B: r.number(), N: r.number(), Args: r.numbers()}
}

func (r *reader) block() api.Block {
	return api.Block{Code: readList(r, (*reader).instr), End: r.number(), Reg: r.number(), To: r.number(), Else: r.number()}
}

func (r *reader) function() api.Func {
	return api.Func{Sig: r.number(), Regs: r.kinds(), Blocks: readList(r, (*reader).block)}
}

func (r *reader) program() *api.Program {
	return &api.Program{
		Records: readList(r, (*reader).kinds),
		Sigs:    readList(r, (*reader).sig),
		Ifaces:  readList(r, (*reader).iface),
		Impls:   readList(r, (*reader).impl),
		Funcs:   readList(r, (*reader).function),
		Main:    r.number(),
	}
}
