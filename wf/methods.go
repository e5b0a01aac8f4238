package wf

import (
	"slices"

	"haruspex/api"
)

// within tells whether k names one of n things.
func within(k, n int) bool { return 0 <= k && k < n }

// twice tells whether two of l are of one record and interface. It holds none against all others, so that a long list
// takes no longer than its length asks for.
func twice(l []api.Impl) bool {
	met := make(map[[2]int]struct{})
	for k := range l {
		met[[2]int{l[k].Rec, l[k].Iface}] = struct{}{}
	}
	return len(met) < len(l)
}

// implements tells whether m has just the functions that its interface asks for of its record.
func implements(p *api.Program, m *api.Impl) bool {
	if !within(m.Rec, len(p.Records)) || !within(m.Iface, len(p.Ifaces)) {
		return false
	}
	methods := p.Ifaces[m.Iface].Sigs
	if len(m.Funcs) != len(methods) {
		return false
	}
	self := api.Type{Kind: api.TPtr, N: m.Rec}
	for k, f := range m.Funcs {
		if !isMethod(p, f, self, methods[k]) {
			return false
		}
	}
	return true
}

// isMethod tells whether the function f takes self ahead of what the signature n takes, and gives what that gives.
func isMethod(p *api.Program, f int, self api.Type, n int) bool {
	if !within(f, len(p.Funcs)) || !within(p.Funcs[f].Sig, len(p.Sigs)) || !within(n, len(p.Sigs)) {
		return false
	}
	has, asked := &p.Sigs[p.Funcs[f].Sig], &p.Sigs[n]
	return len(has.Params) > 0 && has.Params[0] == self &&
		slices.Equal(has.Params[1:], asked.Params) && has.Result == asked.Result
}
