package tests

import (
	"fmt"
	"strings"
	"testing"

	"loop.example/g00002/impl"
)

// The tests tell code as text: an instruction by its name and operands, with its line, a function by what it has.

// instruction is the name of an instruction and how many operands it has.
type instruction struct {
	name     string
	operands int
}

func instructionOf(op int) instruction {
	if op > impl.InsArith {
		names := []string{"Add", "Sub", "Mul", "Div", "Mod", "Idiv", "Pow", "And", "Or", "Xor", "Shl", "Shr", "Neg", "BitNot"}
		if n := op - impl.InsArith; n == impl.NumNeg || n == impl.NumNot {
			return instruction{names[n-1], 2}
		} else if n < impl.NumNeg {
			return instruction{names[n-1], 3}
		}
	}
	all := map[int]instruction{
		1: {"Tick", 0}, 2: {"Move", 2}, 3: {"Nil", 2}, 4: {"Bool", 2}, 5: {"Int", 2}, 6: {"Const", 2}, 7: {"GetUp", 2}, 8: {"SetUp", 2},
		9: {"GetGlobal", 2}, 10: {"SetGlobal", 2}, 11: {"GetIndex", 3}, 12: {"SetIndex", 3}, 13: {"GetField", 3}, 14: {"SetField", 3},
		15: {"Self", 3}, 16: {"Table", 1}, 17: {"SetItem", 3}, 18: {"SetList", 2}, 19: {"Concat", 3}, 20: {"Eq", 3}, 21: {"Lt", 3}, 22: {"Le", 3},
		23: {"Not", 2}, 24: {"Len", 2}, 25: {"Jump", 2}, 26: {"JumpIf", 2}, 27: {"JumpNot", 2}, 28: {"Call", 3}, 29: {"Tail", 2}, 30: {"Return", 2},
		31: {"Dots", 2}, 32: {"Closure", 2}, 33: {"Close", 1}, 34: {"Tbc", 1}, 35: {"ForPrep", 2}, 36: {"ForLoop", 2}, 37: {"Each", 2}, 38: {"EachLoop", 2},
	}
	if i, ok := all[op]; ok {
		return i
	}
	return instruction{fmt.Sprintf("Op%d", op), 3}
}

// instrText tells an instruction; what should be 0 is told only if it isn't. A jump has no A.
func instrText(i impl.Instr) string {
	kind := instructionOf(i.Op)
	text := kind.name
	for k, operand := range []int{i.A, i.B, i.C} {
		switch {
		case i.Op == impl.InsJump && k == 0 && operand == 0:
		case k < kind.operands:
			text += fmt.Sprintf(" %d", operand)
		case operand != 0:
			text += fmt.Sprintf(" and %d", operand)
		}
	}
	return text
}

func constText(c impl.Const) string {
	switch c {
	case impl.Const{Kind: impl.NodeInt, Int: c.Int}:
		return fmt.Sprint(c.Int)
	case impl.Const{Kind: impl.NodeFloat, Bits: c.Bits}:
		return impl.FormatNumber(impl.Number{IsFloat: true, Bits: c.Bits})
	case impl.Const{Kind: impl.NodeString, Text: c.Text}:
		return fmt.Sprintf("%q", c.Text)
	}
	return fmt.Sprintf("%+v", c)
}

// protoText tells a function: a row with what it has, then its instructions, a row for as many as have one line.
func protoText(p impl.Proto) string {
	head := fmt.Sprintf("regs %d line %d", p.Regs, p.Line)
	if p.Params != 0 {
		head += fmt.Sprintf(" params %d", p.Params)
	}
	if p.Dots {
		head += " dots"
	}
	for i, up := range p.Ups {
		head += []string{" ups", ""}[min(i, 1)] + fmt.Sprintf(" %s%d", map[bool]string{true: "R", false: "U"}[up.FromLocal], up.Index)
	}
	for i, c := range p.Consts {
		head += []string{" consts", ""}[min(i, 1)] + " " + constText(c)
	}
	rows := []string{head}
	if len(p.Lines) != len(p.Code) {
		rows = append(rows, fmt.Sprintf("%d instructions have %d lines", len(p.Code), len(p.Lines)))
		return strings.Join(rows, "\n")
	}
	for i, instr := range p.Code {
		if i > 0 && p.Lines[i] == p.Lines[i-1] {
			rows[len(rows)-1] += "; " + instrText(instr)
			continue
		}
		rows = append(rows, fmt.Sprintf("%d: %s", p.Lines[i], instrText(instr)))
	}
	return strings.Join(rows, "\n")
}

func codeText(c impl.Chunk) string {
	var texts []string
	for _, p := range c.Protos {
		texts = append(texts, protoText(p))
	}
	return strings.Join(texts, "\n")
}

// checkChunk holds all functions of a text against a list of them.
func checkChunk(t *testing.T, source, want string) {
	t.Helper()
	c, fault := impl.Compile(source)
	if got := codeText(c); fault != (impl.Fault{}) || got != bare(want) {
		t.Errorf("Compile(%q) tells %+v and\n%s\nwant\n%s", source, fault, got, bare(want))
	}
	checkCodeByModel(t, source)
}
