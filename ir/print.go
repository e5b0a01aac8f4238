package ir

import (
	"strconv"
	"strings"

	"haruspex/api"
)

const unknown = "?" // the line of what is no instruction, or no end

// Print gives p's functions as text: of each its line, and below it its blocks with their instructions and ends.
func Print(p *api.Program) string {
	if p == nil {
		return ""
	}
	var text strings.Builder
	for f := range p.Funcs {
		write(&text, "func ", strconv.Itoa(f))
		for b := range p.Funcs[f].Blocks {
			write(&text, "  block ", strconv.Itoa(b))
			printBlock(&text, &p.Funcs[f].Blocks[b])
		}
	}
	return text.String()
}

// printBlock writes the lines of b's instructions and of its end.
func printBlock(text *strings.Builder, b *api.Block) {
	for _, i := range b.Code {
		write(text, "    ", Line(i))
	}
	write(text, "    ", endLine(b))
}

// write writes a line.
func write(text *strings.Builder, head, rest string) {
	text.WriteString(head)
	text.WriteString(rest)
	text.WriteByte('\n')
}

// Line gives i as text, without an end of line.
func Line(i api.Instr) string {
	if _, ok := Def(i); ok {
		return reg(i.Dst) + " = " + right(i)
	}
	switch i.Op {
	case api.OStore:
		return part(i) + " = " + reg(i.B)
	case api.OFree:
		return "free " + reg(i.A)
	case api.OSink:
		return "sink " + reg(i.A)
	}
	return unknown
}

// right gives as text what i's register becomes, where i defines one.
func right(i api.Instr) string {
	switch i.Op {
	case api.OConst:
		return "const " + strconv.Itoa(i.N)
	case api.OAdd:
		return "add " + reg(i.A) + " " + reg(i.B)
	case api.OSource:
		return "source"
	case api.ONil:
		return "nil"
	case api.OAlloc:
		return "new"
	case api.OCopy:
		return reg(i.A)
	case api.OLoad:
		return part(i)
	case api.OFun:
		return "func " + strconv.Itoa(i.N)
	case api.OMake:
		return "iface " + reg(i.A)
	case api.OCall:
		return "call " + strconv.Itoa(i.N) + list(i.Args)
	case api.OCallR:
		return "call " + reg(i.A) + list(i.Args)
	case api.OCallI:
		return "call " + part(i) + list(i.Args)
	}
	return unknown
}

// endLine gives b's end as text.
func endLine(b *api.Block) string {
	switch b.End {
	case api.EJump:
		return "jump " + strconv.Itoa(b.To)
	case api.EBranch:
		return "branch " + reg(b.Reg) + " " + strconv.Itoa(b.To) + " " + strconv.Itoa(b.Else)
	case api.EReturn:
		return "return " + reg(b.Reg)
	}
	return unknown
}

// reg gives the name of the register r.
func reg(r int) string { return "r" + strconv.Itoa(r) }

// part gives the name of the field, or of the method, N of A.
func part(i api.Instr) string { return reg(i.A) + "." + strconv.Itoa(i.N) }

// list gives registers as a call's arguments.
func list(regs []int) string {
	names := make([]string, len(regs))
	for k, r := range regs {
		names[k] = reg(r)
	}
	return "(" + strings.Join(names, ", ") + ")"
}
