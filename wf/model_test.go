package wf_test

import (
	"fmt"
	"reflect"
	"testing"

	"haruspex/api"
	"haruspex/assign"
	"haruspex/types"
	"haruspex/wf"
)

// dice gives the same numbers at each run.
type dice uint64

func (d *dice) roll(n int) int {
	*d = *d*6364136223846793005 + 1442695040888963407
	return int(uint64(*d)>>33) % n
}

// The model writes signatures as texts: a method with its receiver put into it is to read like its function.
func sigText(s api.Sig, receiver string) string {
	text := receiver
	for _, t := range s.Params {
		text += fmt.Sprint(t, ",")
	}
	return text + "->" + fmt.Sprint(s.Result)
}

// wanted writes what an Impl needs, made writes what it has.
func wanted(p *api.Program, m api.Impl) string {
	text := ""
	for _, n := range p.Ifaces[m.Iface].Sigs {
		text += sigText(p.Sigs[n], fmt.Sprint(api.Type{Kind: api.TPtr, N: m.Rec}, ",")) + ";"
	}
	return text
}

func made(p *api.Program, m api.Impl) string {
	text := ""
	for _, f := range m.Funcs {
		text += sigText(p.Sigs[p.Funcs[f].Sig], "") + ";"
	}
	return text
}

// modelMethods is of programs whose names are right.
func modelMethods(p *api.Program) string {
	for k, m := range p.Impls {
		if wanted(p, m) != made(p, m) {
			return none
		}
		for _, other := range p.Impls[k+1:] {
			if other.Rec == m.Rec && other.Iface == m.Iface {
				return none
			}
		}
	}
	return ""
}

// modelCheck tells what the first one refuses; Methods by the model.
func modelCheck(p *api.Program) string {
	if e := types.Bounds(p); e != nil {
		return around(told(e))
	}
	if e := types.Names(p); e != nil {
		return around(told(e))
	}
	if text := modelMethods(p); text != "" {
		return around(text)
	}
	for _, e := range []error{types.Check(p), assign.Shape(p), assign.Check(p)} {
		if e != nil {
			return around(told(e))
		}
	}
	return ""
}

// holdModel holds Methods and Check against the model; it gives what Check tells.
func holdModel(t *testing.T, p *api.Program) string {
	t.Helper()
	methods, check := told(wf.Methods(p)), told(wf.Check(p))
	if types.Bounds(p) == nil && types.Names(p) == nil && methods != modelMethods(p) {
		t.Fatalf("P12.1: Methods of %+v: %q, want %q", *p, methods, modelMethods(p))
	}
	if check != modelCheck(p) {
		t.Fatalf("P12.1: Check of %+v: %q, want %q", *p, check, modelCheck(p))
	}
	return check
}

// many gives a program with a function of each of 10 signatures, of which some are others with a receiver, and with 4
// interfaces; it has no Impls.
func many() *api.Program {
	p := &api.Program{
		Records: [][]api.Type{{num}, {num}},
		Sigs: []api.Sig{
			{}, {Params: []api.Type{ptr0}}, {Params: []api.Type{ptr1}},
			{Params: []api.Type{num}}, {Params: []api.Type{ptr0, num}}, {Params: []api.Type{ptr1, num}},
			{Result: ptr0}, {Params: []api.Type{ptr0}, Result: ptr0}, {Params: []api.Type{ptr1}, Result: ptr0},
			{Params: []api.Type{ptr0, ptr0}},
		},
		Ifaces: []api.Iface{{}, {Sigs: []int{1}}, {Sigs: []int{0, 3}}, {Sigs: []int{3, 0, 6}}},
	}
	for n := range p.Sigs {
		p.Funcs = append(p.Funcs, api.Func{Sig: n, Regs: p.Sigs[n].Params, Blocks: []api.Block{{End: api.EJump}}})
	}
	return p
}

// lists gives all lists of up to n numbers below most.
func lists(n, most int) [][]int {
	all := [][]int{nil}
	last := all
	for range n {
		var longer [][]int
		for _, l := range last {
			for k := range most {
				longer = append(longer, append(l[:len(l):len(l)], k))
			}
		}
		all, last = append(all, longer...), longer
	}
	return all
}

// All Impls of many: each record, each interface, all functions.
func TestAllImpls(t *testing.T) {
	p := many()
	right := 0
	for _, l := range lists(api.MaxMeths, len(p.Funcs)) {
		for rec := range p.Records {
			for face := range p.Ifaces {
				p.Impls = []api.Impl{{Rec: rec, Iface: face, Funcs: l}}
				if holdModel(t, p) == "" {
					right++
				}
			}
		}
	}
	// Of each record and interface just one is right, but for the record 1 and the interface 1: no function takes both
	// pointers.
	if right != 7 {
		t.Errorf("P12.1: %d Impls are right", right)
	}
}

// All pairs of right and wrong Impls.
func TestAllPairs(t *testing.T) {
	p := many()
	l := []api.Impl{
		{}, {Rec: 1}, {Iface: 1, Funcs: []int{9}}, {Iface: 2, Funcs: []int{1, 4}}, {Rec: 1, Iface: 2, Funcs: []int{2, 5}},
		{Iface: 3, Funcs: []int{4, 1, 7}}, {Rec: 1, Iface: 3, Funcs: []int{5, 2, 8}},
		{Iface: 1}, {Rec: 1, Iface: 1, Funcs: []int{9}}, {Rec: 1, Iface: 2, Funcs: []int{2, 4}}, {Funcs: []int{0}},
	}
	right := 0
	for a := range l {
		for b := range l {
			for c := range l {
				p.Impls = []api.Impl{l[a], l[b], l[c]}
				if holdModel(t, p) == "" {
					right++
				}
			}
		}
	}
	// The first 7 are right, and each once.
	if right != 7*6*5 {
		t.Errorf("P12.1: %d of three are right", right)
	}
}

// numbers gives all numbers of v, for writing.
func numbers(v reflect.Value) []reflect.Value {
	var l []reflect.Value
	switch v.Kind() {
	case reflect.Int:
		return []reflect.Value{v}
	case reflect.Struct:
		for k := range v.NumField() {
			l = append(l, numbers(v.Field(k))...)
		}
	case reflect.Slice:
		for k := range v.Len() {
			l = append(l, numbers(v.Index(k))...)
		}
	}
	return l
}

// Each number of great turned into each of some others, alone and with another one.
func TestSpoilt(t *testing.T) {
	d := dice(12)
	reasons := make(map[string]int)
	count := len(numbers(reflect.ValueOf(great()).Elem()))
	for k := range count {
		for n := -1; n < 8; n++ {
			p := great()
			l := numbers(reflect.ValueOf(p).Elem())
			l[k].SetInt(int64(n))
			reasons[reason(holdModel(t, p))]++
			l[d.roll(count)].SetInt(int64(d.roll(8)))
			reasons[reason(holdModel(t, p))]++
		}
	}
	if len(reasons) != 6 {
		t.Errorf("P12.1: of the reasons some are missing: %v", reasons)
	}
}

// reason gives the first word of what is told.
func reason(text string) string {
	word := ""
	fmt.Sscan(text, &word)
	return word
}

// rolled gives a program whose names are right, with functions that are often methods of its interfaces.
func rolled(d *dice) *api.Program {
	p := many()
	for n := range p.Sigs {
		if d.roll(6) == 0 {
			p.Sigs[n].Result = []api.Type{num, ptr0, ptr1}[d.roll(3)]
		}
	}
	for range d.roll(4) {
		m := api.Impl{Rec: d.roll(2), Iface: d.roll(4)}
		for _, n := range p.Ifaces[m.Iface].Sigs {
			f := d.roll(len(p.Funcs))
			for k := range p.Funcs {
				if d.roll(8) > 0 && sigText(p.Sigs[k], "") == sigText(p.Sigs[n], fmt.Sprint(api.Type{Kind: api.TPtr, N: m.Rec}, ",")) {
					f = k
				}
			}
			m.Funcs = append(m.Funcs, f)
		}
		p.Impls = append(p.Impls, m)
	}
	for f := range p.Funcs {
		p.Funcs[f].Regs = p.Sigs[p.Funcs[f].Sig].Params
		if d.roll(20) == 0 {
			p.Funcs[f].Sig = d.roll(len(p.Sigs))
		}
	}
	return p
}

func TestRolled(t *testing.T) {
	d := dice(120)
	reasons := make(map[string]int)
	for range 20000 {
		reasons[reason(holdModel(t, rolled(&d)))]++
	}
	if min(reasons[""], reasons["methods"], reasons["type"]) < 500 {
		t.Errorf("P12.1: of the rolled programs too few are of a kind: %v", reasons)
	}
}
