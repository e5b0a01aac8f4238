package types_test

import (
	"fmt"
	"math"
	"reflect"
	"slices"
	"strings"
	"testing"

	"haruspex/api"
	"haruspex/types"
)

// The model tells types as texts: what is no type and what is no register are texts that are like no other.
const (
	noType = "no type"
	noReg  = "no register"
)

func text(p *api.Program, t api.Type) string {
	for kind, n := range map[string]int{"int": 1, "ptr": len(p.Records), "fun": len(p.Sigs), "iface": len(p.Ifaces)} {
		for k := range n {
			if t == (api.Type{Kind: slices.Index([]string{"int", "ptr", "fun", "iface"}, kind), N: k}) {
				return fmt.Sprint(kind, " ", k)
			}
		}
	}
	return noType
}

// pick gives the part k of l as a list of one, or of none.
func pick[T any](l []T, k int) []T {
	for n := range l {
		if n == k {
			return l[n : n+1]
		}
	}
	return nil
}

func regText(p *api.Program, f, r int) string {
	for _, t := range pick(p.Funcs[f].Regs, r) {
		if told := text(p, t); told != noType {
			return told
		}
	}
	return noReg
}

// sigText tells the signature n as a call of it looks.
func sigText(p *api.Program, n int) string {
	for _, s := range pick(p.Sigs, n) {
		told := "("
		for _, t := range s.Params {
			told += text(p, t) + ","
		}
		return told + ")" + text(p, s.Result)
	}
	return "no signature"
}

// callText tells i as a call of a signature looks.
func callText(p *api.Program, f int, i api.Instr) string {
	told := "("
	for _, r := range i.Args {
		told += regText(p, f, r) + ","
	}
	return told + ")" + regText(p, f, i.Dst)
}

// number gives the number behind a kind in a type's text; -1: it is of another kind.
func number(told, kind string) int {
	n := -1
	if rest, ok := strings.CutPrefix(told, kind+" "); ok {
		fmt.Sscan(rest, &n)
	}
	return n
}

// fieldText tells the type of a field of what a type's text points to.
func fieldText(p *api.Program, told string, n int) string {
	for _, r := range pick(p.Records, number(told, "ptr")) {
		for _, t := range pick(r, n) {
			return text(p, t)
		}
	}
	return "no field"
}

func methodText(p *api.Program, told string, n int) string {
	for _, x := range pick(p.Ifaces, number(told, "iface")) {
		for _, s := range pick(x.Sigs, n) {
			return sigText(p, s)
		}
	}
	return "no method"
}

func funcText(p *api.Program, n int) (sig string, kind string) {
	for _, f := range pick(p.Funcs, n) {
		return sigText(p, f.Sig), text(p, api.Type{Kind: api.TFun, N: f.Sig})
	}
	return "no function", "no function"
}

func modelFits(p *api.Program, f int, i api.Instr) bool {
	if p == nil || len(pick(p.Funcs, f)) == 0 || !modelNamed(p, f, i) {
		return false
	}
	d, a, b := regText(p, f, i.Dst), regText(p, f, i.A), regText(p, f, i.B)
	called, kind := funcText(p, i.N)
	switch i.Op {
	case api.OConst, api.OSource:
		return d == "int 0"
	case api.OAdd:
		return d+a+b == "int 0int 0int 0"
	case api.ONil:
		return d != "int 0" && d != noReg
	case api.OAlloc:
		return number(d, "ptr") >= 0
	case api.OCopy:
		return d == a && d != noReg
	case api.OLoad:
		return d == fieldText(p, a, i.N)
	case api.OStore:
		return b == fieldText(p, a, i.N)
	case api.OFree:
		return number(a, "ptr") >= 0
	case api.OFun:
		return d == kind
	case api.OMake:
		want := [2]int{number(a, "ptr"), number(d, "iface")}
		return want[0] >= 0 && want[1] >= 0 && slices.ContainsFunc(p.Impls, func(m api.Impl) bool { return [2]int{m.Rec, m.Iface} == want })
	case api.OCall:
		return callText(p, f, i) == called
	case api.OCallR:
		return callText(p, f, i) == sigText(p, number(a, "fun"))
	case api.OCallI:
		return callText(p, f, i) == methodText(p, a, i.N)
	case api.OSink:
		return a == "int 0"
	}
	return false
}

// asked is a question of the model, where it is asked, and whether its answer is yes.
type asked struct {
	at api.Point
	ok bool
}

// first tells the first answer that is no.
func first(why string, l []asked) string {
	for _, x := range l {
		switch {
		case !x.ok && x.at.F < 0:
			return why
		case !x.ok:
			return fmt.Sprintf("%s %d.%d.%d", why, x.at.F, x.at.B, x.at.I)
		}
	}
	return ""
}

var nowhere = api.Point{F: -1}

// modelNames asks all questions, one for each number, in the chapter's order.
func modelNames(p *api.Program) string {
	var l []asked
	at := nowhere
	one := func(ok bool) { l = append(l, asked{at, ok}) }
	all := func(ts []api.Type) {
		for _, t := range ts {
			one(text(p, t) != noType)
		}
	}
	for _, r := range p.Records {
		all(r)
	}
	for _, s := range p.Sigs {
		all(append(slices.Clone(s.Params), s.Result))
	}
	for _, x := range p.Ifaces {
		for _, n := range x.Sigs {
			one(len(pick(p.Sigs, n)) > 0)
		}
	}
	for _, m := range p.Impls {
		one(len(pick(p.Records, m.Rec)) > 0)
		one(len(pick(p.Ifaces, m.Iface)) > 0)
		for _, n := range m.Funcs {
			one(len(pick(p.Funcs, n)) > 0)
		}
	}
	for f, fn := range p.Funcs {
		at = nowhere
		one(len(pick(p.Sigs, fn.Sig)) > 0)
		all(fn.Regs)
		for b, block := range fn.Blocks {
			for k, i := range block.Code {
				at = api.Point{F: f, B: b, I: k}
				one(modelNamed(p, f, i))
			}
			at = api.Point{F: f, B: b, I: len(block.Code)}
			one(modelEnd(fn, block))
		}
	}
	at = nowhere
	one(len(pick(p.Funcs, p.Main)) > 0)
	return first("name", l)
}

// modelNamed goes by the letters of counted.
func modelNamed(p *api.Program, f int, i api.Instr) bool {
	letters, ok := counted()[i.Op]
	for letter, place := range places(&i) {
		switch {
		case !strings.ContainsRune(letters, letter):
			ok = ok && *place == 0
		case letter != 'N':
			ok = ok && len(pick(p.Funcs[f].Regs, *place)) > 0
		}
	}
	for _, r := range i.Args {
		ok = ok && strings.Contains(letters, "*") && len(pick(p.Funcs[f].Regs, r)) > 0
	}
	a := regText(p, f, i.A)
	switch i.Op {
	case api.OLoad, api.OStore:
		return ok && (number(a, "ptr") < 0 || fieldText(p, a, i.N) != "no field")
	case api.OCallI:
		return ok && (number(a, "iface") < 0 || methodText(p, a, i.N) != "no method")
	case api.OFun, api.OCall:
		return ok && len(pick(p.Funcs, i.N)) > 0
	}
	return ok
}

func modelEnd(fn api.Func, b api.Block) bool {
	reg, to, other := len(pick(fn.Regs, b.Reg)) > 0, len(pick(fn.Blocks, b.To)) > 0, len(pick(fn.Blocks, b.Else)) > 0
	return b.End == api.EJump && b.Reg == 0 && to && b.Else == 0 || b.End == api.EBranch && reg && to && other || b.End == api.EReturn && reg && b.To == 0 && b.Else == 0
}

// modelCheck is of programs whose names are right.
func modelCheck(p *api.Program) string {
	var l []asked
	for f, fn := range p.Funcs {
		params := p.Sigs[fn.Sig].Params
		for k, t := range params {
			l = append(l, asked{nowhere, regText(p, f, k) == text(p, t)})
		}
	}
	for f, fn := range p.Funcs {
		for b, block := range fn.Blocks {
			for k, i := range block.Code {
				l = append(l, asked{api.Point{F: f, B: b, I: k}, modelFits(p, f, i)})
			}
			want := map[int]string{api.EBranch: "int 0", api.EReturn: text(p, p.Sigs[fn.Sig].Result)}[block.End]
			l = append(l, asked{api.Point{F: f, B: b, I: len(block.Code)}, want == "" || want == regText(p, f, block.Reg)})
		}
	}
	l = append(l, asked{nowhere, sigText(p, p.Funcs[p.Main].Sig) == "()int 0"})
	return first("type", l)
}

func modelBounds(p *api.Program) string {
	l := []asked{{nowhere, len(p.Funcs) > 0}}
	most := func(n, most int) { l = append(l, asked{nowhere, n <= most}) }
	points, sites := 0, 0
	most(len(p.Records), 6)
	most(len(p.Sigs), 10)
	most(len(p.Ifaces), 4)
	most(len(p.Impls), 12)
	most(len(p.Funcs), 12)
	for _, r := range p.Records {
		most(len(r), 4)
	}
	for _, s := range p.Sigs {
		most(len(s.Params), 4)
	}
	for _, x := range p.Ifaces {
		most(len(x.Sigs), 3)
	}
	for _, m := range p.Impls {
		most(len(m.Funcs), 3)
	}
	for _, f := range p.Funcs {
		most(len(f.Regs), 16)
		most(len(f.Blocks), 12)
		most(1, len(f.Blocks))
		for _, b := range f.Blocks {
			most(len(b.Code), 30)
			points += len(b.Code) + 1
			for _, i := range b.Code {
				most(len(i.Args), 4)
				sites += map[int]int{api.OAlloc: 1}[i.Op]
			}
		}
	}
	most(points, 600)
	most(sites, 40)
	return first("bound", l)
}

// holdAll holds what is told of p against the model, and gives it.
func holdAll(t *testing.T, p *api.Program) (bounds, names, check string) {
	t.Helper()
	if bounds = told(types.Bounds(p)); bounds != modelBounds(p) {
		t.Fatalf("P10.1: Bounds of %+v: %q, the model %q", p, bounds, modelBounds(p))
	}
	if names = told(types.Names(p)); names != modelNames(p) {
		t.Fatalf("P10.1: Names of %+v: %q, the model %q", p, names, modelNames(p))
	}
	check = told(types.Check(p))
	if names == "" && check != modelCheck(p) {
		t.Fatalf("P10.2: Check of %+v: %q, the model %q", p, check, modelCheck(p))
	}
	for f, fn := range p.Funcs {
		for _, b := range fn.Blocks {
			for _, i := range b.Code {
				if got := types.Fits(p, f, i); got != modelFits(p, f, i) {
					t.Fatalf("P10.2: %+v in %d of %+v fits: %t", i, f, p, got)
				}
			}
		}
	}
	return bounds, names, check
}

// numbers gives all places of numbers in v.
func numbers(v reflect.Value) []reflect.Value {
	var l []reflect.Value
	switch v.Kind() {
	case reflect.Int:
		return []reflect.Value{v}
	case reflect.Struct:
		for k := range v.NumField() {
			l = append(l, numbers(v.Field(k))...)
		}
	case reflect.Slice:
		for k := range v.Len() {
			l = append(l, numbers(v.Index(k))...)
		}
	}
	return l
}

// Each number of great, turned into each of many others.
func TestEachNumber(t *testing.T) {
	values := []int{math.MinInt, math.MinInt + 1, -1 << 32, -2, 1 << 31, 1 << 32, 1<<32 + 1, math.MaxInt}
	for n := -1; n <= 17; n++ {
		values = append(values, n)
	}
	p := great()
	for _, place := range numbers(reflect.ValueOf(p).Elem()) {
		was := place.Int()
		for _, n := range values {
			place.SetInt(int64(n))
			holdAll(t, p)
		}
		place.SetInt(was)
	}
}

// cleared gives i with nothing but what counts.
func cleared(i api.Instr) api.Instr {
	for letter, place := range places(&i) {
		if !strings.ContainsRune(counted()[i.Op], letter) {
			*place = 0
		}
	}
	if !strings.Contains(counted()[i.Op], "*") {
		i.Args = nil
	}
	return i
}

// holdFits holds Fits of i, as it is and cleared, against the model; it tells how many of them fit.
func holdFits(t *testing.T, p *api.Program, f int, i api.Instr) int {
	t.Helper()
	fit := 0
	for _, x := range []api.Instr{i, cleared(i)} {
		got := types.Fits(p, f, x)
		if got != modelFits(p, f, x) {
			t.Fatalf("P10.2: %+v in %d of %+v fits: %t", x, f, p, got)
		}
		if got {
			fit++
		}
	}
	return fit
}

// All instructions with numbers about the registers of great, in each of its functions, and in none.
func TestAllSmallInstructions(t *testing.T) {
	p := great()
	args := [][]int{nil, {0}, {2}, {6}, {10}, {-1}, {0, 6}, {6, 0}, {0, 6, 0}}
	fit := make(map[int]int)
	for op := -1; op <= 17; op++ {
		for d := -1; d <= 10; d++ {
			for a := -1; a <= 10; a++ {
				for n := -1; n <= 5; n++ {
					for k, l := range args {
						// B and the function go round with the others: not all of them are asked with all.
						i := api.Instr{Op: op, Dst: d, A: a, B: (d+a+n+k+30)%12 - 1, N: n, Args: l}
						f := main
						if (d+a+k)%4 == 0 {
							f = (n+7)%7 - 1
						}
						if n := holdFits(t, p, f, i); n > 0 {
							fit[op] += n
						}
					}
				}
			}
		}
	}
	if len(fit) != 15 {
		t.Errorf("P10.2: of so many kinds one fits: %d", len(fit))
	}
}

// dice gives the same numbers at each run.
type dice uint64

func (d *dice) roll(n int) int {
	*d = *d*6364136223846793005 + 1442695040888963407
	return int(uint64(*d)>>33) % n
}

func (d *dice) rollType(recs, sigs, ifaces int) api.Type {
	kind := d.roll(4)
	return api.Type{Kind: kind, N: d.roll([]int{1, recs, sigs, ifaces}[kind])}
}

func (d *dice) rollTypes(n, recs, sigs, ifaces int) []api.Type {
	var l []api.Type
	for range n {
		l = append(l, d.rollType(recs, sigs, ifaces))
	}
	return l
}

// rollInstr gives an instruction of the function f, whose names and types the model takes, if it finds one.
func (d *dice) rollInstr(p *api.Program, f int) api.Instr {
	regs := len(p.Funcs[f].Regs)
	for range 60 {
		i := api.Instr{Op: 1 + d.roll(15), Dst: d.roll(regs), A: d.roll(regs), B: d.roll(regs), N: d.roll(4)}
		for range d.roll(4) {
			i.Args = append(i.Args, d.roll(regs))
		}
		if i = cleared(i); modelFits(p, f, i) {
			return i
		}
	}
	return api.Instr{Op: api.OCopy}
}

// rollEnd gives an end of the function f, which the model takes.
func (d *dice) rollEnd(p *api.Program, f int) api.Block {
	regs, blocks := p.Funcs[f].Regs, len(p.Funcs[f].Blocks)
	r := d.roll(len(regs))
	switch {
	case regs[r] == p.Sigs[p.Funcs[f].Sig].Result:
		return api.Block{End: api.EReturn, Reg: r}
	case regs[r] == num:
		return api.Block{End: api.EBranch, Reg: r, To: d.roll(blocks), Else: d.roll(blocks)}
	}
	return api.Block{End: api.EJump, To: d.roll(blocks)}
}

// program gives one that the model takes: main is one of its functions.
func (d *dice) program() *api.Program {
	recs, sigs, ifaces, funcs := 1+d.roll(3), 1+d.roll(4), 1+d.roll(2), 1+d.roll(4)
	p := &api.Program{Main: d.roll(funcs), Sigs: []api.Sig{{}}}
	for range recs {
		p.Records = append(p.Records, d.rollTypes(d.roll(4), recs, sigs, ifaces))
	}
	for range sigs - 1 {
		p.Sigs = append(p.Sigs, api.Sig{Params: d.rollTypes(d.roll(4), recs, sigs, ifaces), Result: d.rollType(recs, sigs, ifaces)})
	}
	for range ifaces {
		p.Ifaces = append(p.Ifaces, api.Iface{Sigs: []int{d.roll(sigs), d.roll(sigs)}[:d.roll(3)]})
	}
	for range d.roll(4) {
		p.Impls = append(p.Impls, api.Impl{Rec: d.roll(recs), Iface: d.roll(ifaces), Funcs: []int{d.roll(funcs), d.roll(funcs)}[:d.roll(3)]})
	}
	for f := range funcs {
		fn := api.Func{Blocks: make([]api.Block, 1+d.roll(4))}
		if f != p.Main {
			fn.Sig = d.roll(sigs)
		}
		fn.Regs = append(slices.Clone(p.Sigs[fn.Sig].Params), d.rollTypes(1+d.roll(8), recs, sigs, ifaces)...)
		p.Funcs = append(p.Funcs, fn)
	}
	for f := range p.Funcs {
		for b := range p.Funcs[f].Blocks {
			block := d.rollEnd(p, f)
			for range d.roll(6) {
				block.Code = append(block.Code, d.rollInstr(p, f))
			}
			p.Funcs[f].Blocks[b] = block
		}
	}
	return p
}

// spoil turns one number of p into another.
func (d *dice) spoil(p *api.Program) {
	l := numbers(reflect.ValueOf(p).Elem())
	l[d.roll(len(l))].SetInt(int64(d.roll(9) - 2))
}

func TestAgainstModel(t *testing.T) {
	d := dice(10)
	right, names, types, ops := 0, 0, 0, make(map[int]struct{})
	for range 1500 {
		p := d.program()
		if bounds, name, check := holdAll(t, p); bounds+name+check != "" {
			t.Fatalf("P10.2: %+v: %q, %q, %q", p, bounds, name, check)
		}
		for _, f := range p.Funcs {
			for _, b := range f.Blocks {
				for _, i := range b.Code {
					ops[i.Op] = struct{}{}
				}
			}
		}
		for range 6 {
			d.spoil(p)
			_, name, check := holdAll(t, p)
			switch {
			case name != "":
				names++
			case check != "":
				types++
			default:
				right++
			}
		}
	}
	if min(right, names, types) < 100 || len(ops) != 15 {
		t.Errorf("P10.2: right %d, wrong names %d, wrong types %d, Ops %d", right, names, types, len(ops))
	}
}

// Instructions of no plan in rolled programs.
func TestRolledInstructions(t *testing.T) {
	d := dice(1010)
	for range 300 {
		p := d.program()
		if d.roll(2) == 0 {
			d.spoil(p)
		}
		for range 300 {
			i := api.Instr{Op: d.roll(17), Dst: d.roll(9) - 1, A: d.roll(9) - 1, B: d.roll(9) - 1, N: d.roll(6) - 1}
			for range d.roll(4) {
				i.Args = append(i.Args, d.roll(10)-1)
			}
			holdFits(t, p, d.roll(6)-1, i)
		}
	}
}
