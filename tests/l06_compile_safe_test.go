package tests

import (
	"fmt"
	"math"
	"slices"
	"testing"

	"loop.example/g00002/impl"
)

// P8: what chapter 9 asks of a chunk, rule by rule, is asked of all code that is made. P6: its functions are those of Scope.

// fits tells whether a number is from 0 to the greatest that so many bytes hold.
func fits(n, bytes int) bool { return n >= 0 && n < 1<<(8*bytes) }

func fitsSigned(n int) bool { return n >= math.MinInt32 && n <= math.MaxInt32 }

func isLine(n int) bool { return n >= 0 && n <= math.MaxInt32 }

// canBeWritten tells whether chapter 8 has a place for a function.
func canBeWritten(p impl.Proto) bool {
	ok := fits(p.Params, 1) && fits(p.Regs, 1) && isLine(p.Line) && len(p.Ups) <= 255 && len(p.Consts) <= 65535 && len(p.Code) <= 65535 && len(p.Lines) == len(p.Code)
	for _, up := range p.Ups {
		ok = ok && fits(up.Index, 1)
	}
	for _, c := range p.Consts {
		f := math.Float64frombits(c.Bits)
		switch c.Kind {
		case impl.NodeInt:
			ok = ok && c.Bits == 0 && c.Text == ""
		case impl.NodeFloat:
			ok = ok && c.Int == 0 && c.Text == "" && (f == f || c.Bits == 0x7FF8000000000000)
		case impl.NodeString:
			ok = ok && c.Int == 0 && c.Bits == 0 && len(c.Text) <= 65536
		default:
			ok = false
		}
	}
	for _, i := range p.Code {
		ok = ok && fits(i.Op, 1) && fits(i.A, 1) && fitsSigned(i.B) && fitsSigned(i.C)
	}
	for _, line := range p.Lines {
		ok = ok && isLine(line)
	}
	return ok
}

// hasShape tells whether a function keeps what is asked of it as a whole.
func hasShape(p impl.Proto, last bool) bool {
	switch {
	case !canBeWritten(p), p.Params > impl.MaxLocals, p.Params > p.Regs, p.Regs < 1, p.Regs > impl.MaxRegs:
		return false
	case len(p.Ups) > impl.MaxUps, len(p.Consts) > impl.MaxConsts, len(p.Code) < 1, len(p.Code) > impl.MaxCode:
		return false
	}
	return !last || p.Params == 0 && len(p.Ups) == 0 && p.Dots
}

// namedRegisters are the registers that an instruction names.
func namedRegisters(i impl.Instr) []int {
	switch i.Op {
	case impl.InsTick, impl.InsJump:
		return nil
	case impl.InsMove, impl.InsNot, impl.InsLen, impl.InsGetField, impl.InsArith + impl.NumNeg, impl.InsArith + impl.NumNot:
		return []int{i.A, i.B}
	case impl.InsSelf:
		return []int{i.A, i.B, i.A + 1}
	case impl.InsGetIndex, impl.InsSetIndex, impl.InsConcat, impl.InsEq, impl.InsLt, impl.InsLe:
		return []int{i.A, i.B, i.C}
	case impl.InsSetField, impl.InsSetItem:
		return []int{i.A, i.C}
	case impl.InsForPrep, impl.InsForLoop, impl.InsEachLoop:
		return []int{i.A, i.A + 3}
	case impl.InsEach:
		return []int{i.A, i.A + 5}
	}
	if i.Op > impl.InsArith {
		return []int{i.A, i.B, i.C}
	}
	return []int{i.A}
}

// namesConstants tells whether the constants of an instruction are there.
func namesConstants(p impl.Proto, i impl.Instr) bool {
	place := i.B
	switch i.Op {
	case impl.InsConst:
		return i.B >= 0 && i.B < len(p.Consts)
	case impl.InsGetField, impl.InsSelf:
		place = i.C
	case impl.InsGetGlobal, impl.InsSetGlobal, impl.InsSetField:
	default:
		return true
	}
	return place >= 0 && place < len(p.Consts) && p.Consts[place].Kind == impl.NodeString
}

func namesUpvalues(p impl.Proto, i impl.Instr) bool {
	return i.Op != impl.InsGetUp && i.Op != impl.InsSetUp || i.B >= 0 && i.B < len(p.Ups)
}

func namesFunctions(c impl.Chunk, function int, i impl.Instr) bool {
	if i.Op != impl.InsClosure {
		return true
	}
	if i.B < 0 || i.B >= function {
		return false
	}
	for _, up := range c.Protos[i.B].Ups {
		bound := len(c.Protos[function].Ups)
		if up.FromLocal {
			bound = c.Protos[function].Regs
		}
		if up.Index < 0 || up.Index >= bound {
			return false
		}
	}
	return true
}

// leavesOpen tells whether an instruction leaves values open.
func leavesOpen(i impl.Instr) bool {
	return i.Op == impl.InsCall && i.C == 0 || i.Op == impl.InsDots && i.B == 0
}

// takesOpen tells whether an instruction takes what is open, and from which register on.
func takesOpen(i impl.Instr) (int, bool) {
	switch i.Op {
	case impl.InsCall, impl.InsTail:
		return i.A + 1, i.B == 0
	case impl.InsReturn:
		return i.A, i.B == 0
	case impl.InsSetList:
		return i.A + 1, true
	}
	return 0, false
}

func jumpsWell(p impl.Proto, at int) bool {
	i := p.Code[at]
	switch i.Op {
	case impl.InsJump, impl.InsJumpIf, impl.InsJumpNot, impl.InsForPrep, impl.InsForLoop, impl.InsEachLoop:
	default:
		return true
	}
	if i.B < 0 || i.B >= len(p.Code) {
		return false
	}
	if _, takes := takesOpen(p.Code[i.B]); takes {
		return false
	}
	return i.B > at || p.Code[i.B].Op == impl.InsTick
}

func opensWell(p impl.Proto, at int) bool {
	if leavesOpen(p.Code[at]) {
		if at+1 == len(p.Code) {
			return false
		}
		if from, takes := takesOpen(p.Code[at+1]); !takes || from > p.Code[at].A {
			return false
		}
	}
	if _, takes := takesOpen(p.Code[at]); takes {
		return at > 0 && leavesOpen(p.Code[at-1])
	}
	return true
}

func endsWell(p impl.Proto, at int) bool {
	return at < len(p.Code)-1 || slices.Contains([]int{impl.InsReturn, impl.InsTail, impl.InsJump}, p.Code[at].Op)
}

func countsWell(regs int, i impl.Instr) bool {
	from := func(n, least, most int) bool { return n >= least && n <= most }
	switch i.Op {
	case impl.InsNil:
		return from(i.B, 1, regs-i.A)
	case impl.InsBool:
		return from(i.B, 0, 1)
	case impl.InsInt:
		return from(i.B, -32768, 32767)
	case impl.InsSetItem, impl.InsSetList:
		return i.B >= 1
	case impl.InsCall:
		return from(i.B, 0, regs-i.A) && from(i.C, 0, regs-i.A+1)
	case impl.InsTail:
		return from(i.B, 0, regs-i.A)
	case impl.InsReturn, impl.InsDots:
		return from(i.B, 0, regs-i.A+1)
	case impl.InsEach:
		return from(i.B, 1, regs-i.A-3)
	}
	return true
}

func isOp(op int) bool {
	return op >= impl.InsTick && op <= impl.InsEachLoop || op >= impl.InsArith+impl.NumAdd && op <= impl.InsArith+impl.NumNot
}

// modelVerdictOf is the first thing that is wrong at an instruction, as the order of the list has it.
func modelVerdictOf(c impl.Chunk, function, at int) int {
	p := c.Protos[function]
	i := p.Code[at]
	within := true
	for _, r := range namedRegisters(i) {
		within = within && r >= 0 && r < p.Regs
	}
	switch {
	case !isOp(i.Op):
		return impl.ChunkOp
	case !within:
		return impl.ChunkReg
	case !namesConstants(p, i):
		return impl.ChunkConst
	case !namesUpvalues(p, i):
		return impl.ChunkUp
	case !namesFunctions(c, function, i):
		return impl.ChunkProto
	case !jumpsWell(p, at):
		return impl.ChunkJump
	case !opensWell(p, at):
		return impl.ChunkOpen
	case !endsWell(p, at):
		return impl.ChunkEnd
	case i.Op == impl.InsDots && !p.Dots:
		return impl.ChunkDots
	case !countsWell(p.Regs, i):
		return impl.ChunkCount
	}
	return 0
}

// modelVerify says chapter 9 once more.
func modelVerify(c impl.Chunk) impl.Verdict {
	if len(c.Protos) == 0 || len(c.Protos) > impl.MaxProtos {
		return impl.Verdict{Code: impl.ChunkShape}
	}
	for function, p := range c.Protos {
		if !hasShape(p, function == len(c.Protos)-1) {
			return impl.Verdict{Code: impl.ChunkShape, Proto: function}
		}
		for at := range p.Code {
			if code := modelVerdictOf(c, function, at); code != 0 {
				return impl.Verdict{Code: code, Proto: function, At: at}
			}
		}
	}
	return impl.Verdict{}
}

// checkSafe asks all of a text's code that chapters 5 and 9 ask; it tells whether the text has no fault.
func checkSafe(t *testing.T, source string) bool {
	t.Helper()
	scoped, fault := impl.Scope(source)
	c, told := impl.Compile(source)
	if fault.Code != 0 || told.Code != 0 {
		if fault.Code != 0 && told != fault || len(c.Protos) != 0 {
			t.Errorf("Compile(%.300q) tells %+v and %d functions, want %+v", source, told, len(c.Protos), fault)
		}
		return false
	}
	if v := modelVerify(c); v != (impl.Verdict{}) {
		t.Errorf("the code of %.2000q isn't safe: %+v in\n%s", source, v, codeText(c))
	}
	if v := impl.Verify(c); v != (impl.Verdict{}) {
		t.Errorf("the code of %.2000q is told not to be safe: %+v", source, v)
	}
	var want, got []string
	for _, f := range scoped.Funcs {
		want = append(want, fmt.Sprint(f.Params, f.Dots, f.Ups))
	}
	for _, p := range c.Protos {
		got = append(got, fmt.Sprint(p.Params, p.Dots, p.Ups))
	}
	if !slices.Equal(got, want) {
		t.Errorf("the functions of %.2000q are %q, those of Scope %q", source, got, want)
	}
	return true
}

// Chunks with one thing wrong each show that the model finds it.
func TestCompileModelOfSafety(t *testing.T) {
	base := func() impl.Proto {
		return impl.Proto{Regs: 6, Line: 1, Dots: true, Consts: []impl.Const{{Kind: impl.NodeString, Text: "a"}, {Kind: impl.NodeInt, Int: 70000}}}
	}
	end := impl.Instr{Op: impl.InsReturn, B: 1}
	tick := impl.Instr{Op: impl.InsTick}
	for _, c := range []struct {
		code int
		list []impl.Instr
	}{
		{0, []impl.Instr{end}},
		{0, []impl.Instr{tick, {Op: impl.InsJump}}},
		{0, []impl.Instr{{Op: impl.InsDots, A: 5}, {Op: impl.InsSetList, A: 4, B: 1}, end}},
		{impl.ChunkShape, nil},
		{impl.ChunkShape, []impl.Instr{{Op: impl.InsMove, A: 256}, end}},
		{impl.ChunkOp, []impl.Instr{{Op: 39}, end}},
		{impl.ChunkOp, []impl.Instr{{Op: impl.InsArith}, end}},
		{impl.ChunkOp, []impl.Instr{{Op: impl.InsArith + 15}, end}},
		{impl.ChunkReg, []impl.Instr{{Op: impl.InsMove, A: 6}, end}},
		{impl.ChunkReg, []impl.Instr{{Op: impl.InsMove, B: 6}, end}},
		{impl.ChunkReg, []impl.Instr{{Op: impl.InsSelf, A: 5}, end}},
		{impl.ChunkReg, []impl.Instr{{Op: impl.InsEach, A: 1, B: 1}, end}},
		{impl.ChunkReg, []impl.Instr{{Op: impl.InsArith + 1, C: 6}, end}},
		{impl.ChunkReg, []impl.Instr{tick, {Op: impl.InsForLoop, A: 3}, end}},
		{impl.ChunkReg, []impl.Instr{{Op: impl.InsSetItem, B: 1, C: 6}, end}},
		{impl.ChunkConst, []impl.Instr{{Op: impl.InsConst, B: 2}, end}},
		{impl.ChunkConst, []impl.Instr{{Op: impl.InsGetGlobal, B: 1}, end}},
		{impl.ChunkConst, []impl.Instr{{Op: impl.InsGetField, C: 1}, end}},
		{impl.ChunkUp, []impl.Instr{{Op: impl.InsGetUp}, end}},
		{impl.ChunkProto, []impl.Instr{{Op: impl.InsClosure}, end}},
		{impl.ChunkJump, []impl.Instr{{Op: impl.InsJump, B: 2}, end}},
		{impl.ChunkJump, []impl.Instr{{Op: impl.InsNil, B: 1}, {Op: impl.InsJump}}},
		{impl.ChunkJump, []impl.Instr{{Op: impl.InsJump, B: 2}, {Op: impl.InsDots}, {Op: impl.InsReturn}}},
		{impl.ChunkOpen, []impl.Instr{{Op: impl.InsDots}, end}},
		{impl.ChunkOpen, []impl.Instr{{Op: impl.InsDots}, {Op: impl.InsCall}, end}},
		{impl.ChunkOpen, []impl.Instr{{Op: impl.InsReturn}}},
		{impl.ChunkEnd, []impl.Instr{tick}},
		{impl.ChunkCount, []impl.Instr{{Op: impl.InsNil, A: 5, B: 2}, end}},
		{impl.ChunkCount, []impl.Instr{{Op: impl.InsBool, B: 2}, end}},
		{impl.ChunkCount, []impl.Instr{{Op: impl.InsInt, B: 32768}, end}},
		{impl.ChunkCount, []impl.Instr{{Op: impl.InsCall, A: 5, B: 2, C: 1}, end}},
		{impl.ChunkCount, []impl.Instr{{Op: impl.InsCall, A: 5, B: 1, C: 3}, end}},
		{impl.ChunkCount, []impl.Instr{{Op: impl.InsEach, B: 4}, end}},
		{impl.ChunkCount, []impl.Instr{{Op: impl.InsReturn, A: 5, B: 3}}},
	} {
		p := base()
		p.Code, p.Lines = c.list, make([]int, len(c.list))
		if v := modelVerify(impl.Chunk{Protos: []impl.Proto{p}}); v.Code != c.code {
			t.Errorf("the model tells %+v of %+v, want %d", v, c.list, c.code)
		}
	}
	p := base()
	p.Code, p.Lines, p.Dots = []impl.Instr{{Op: impl.InsDots, B: 2}, end}, []int{1, 1}, false
	if v := modelVerify(impl.Chunk{Protos: []impl.Proto{p, {Regs: 1, Dots: true, Code: []impl.Instr{end}, Lines: []int{1}}}}); v != (impl.Verdict{Code: impl.ChunkDots}) {
		t.Errorf("the model tells %+v of dots in a function without", v)
	}
}
