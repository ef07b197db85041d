package tests

import (
	"fmt"
	"math"
	"slices"
	"strings"
	"testing"

	"loop.example/g00002/impl"
)

// P8, the verdict itself: each code of chapter 9 at each instruction that it speaks of, last right and first wrong.

// checkVerdict holds the verdict on a chunk against what is told, and the model against it too.
func checkVerdict(t *testing.T, what string, c impl.Chunk, want impl.Verdict) {
	t.Helper()
	if got := impl.Verify(c); got != want {
		t.Errorf("%s: Verify tells %+v, want %+v; the code is\n%.1000s", what, got, want, codeText(c))
	}
	if got := modelVerify(c); got != want {
		t.Errorf("%s: the model tells %+v, want %+v", what, got, want)
	}
}

var (
	tick = impl.Instr{Op: impl.InsTick}
	end  = impl.Instr{Op: impl.InsReturn, B: 1}
	dots = impl.Instr{Op: impl.InsDots, A: 9}
)

// subjectRegs is how many registers the subject below has.
const subjectRegs = 10

// plainProto is a safe function that may stand in any place.
func plainProto() impl.Proto {
	return impl.Proto{Regs: 1, Dots: true, Code: []impl.Instr{tick, end}, Lines: []int{1, 1}}
}

// innerProto takes a register and an upvalue of the function around it.
func innerProto() impl.Proto {
	p := plainProto()
	p.Ups = []impl.Up{{FromLocal: true, Index: 9}, {Index: 1}}
	return p
}

// subjectIn is a chunk whose second function has the code told. Ahead of it stands one that it can make closures of.
func subjectIn(code ...impl.Instr) impl.Chunk {
	subject := impl.Proto{
		Params: 2, Regs: subjectRegs, Line: 1, Dots: true, Ups: []impl.Up{{FromLocal: true}, {}},
		Consts: []impl.Const{{Kind: impl.NodeString, Text: "a"}, {Kind: impl.NodeInt, Int: 70000}, {Kind: impl.NodeFloat, Bits: 1}, {Kind: impl.NodeString}},
		Code:   code, Lines: many(1, len(code)),
	}
	return impl.Chunk{Protos: []impl.Proto{innerProto(), subject, plainProto()}}
}

// checkSubject looks at the second function's code, of which an instruction is wrong, or none if the code is 0.
func checkSubject(t *testing.T, code, at int, list ...impl.Instr) {
	t.Helper()
	want := impl.Verdict{}
	if code != 0 {
		want = impl.Verdict{Code: code, Proto: 1, At: at}
	}
	checkVerdict(t, fmt.Sprint(list), subjectIn(list...), want)
}

// checkIn looks at an instruction between others, with a tick ahead and one behind.
func checkIn(t *testing.T, code int, i impl.Instr) {
	t.Helper()
	checkSubject(t, code, 1, tick, i, tick, end)
}

// knownOps are all instructions.
func knownOps() []int {
	var ops []int
	for op := range 256 {
		if isOp(op) {
			ops = append(ops, op)
		}
	}
	return ops
}

// opsBetween are the operations of chapter 2 from one to another.
func opsBetween(first, last int) []int {
	var ops []int
	for op := first; op <= last; op++ {
		ops = append(ops, impl.InsArith+op)
	}
	return ops
}

// safeInstr is an instruction that is safe between two ticks of the subject (but for SetList, which is so behind what it takes).
func safeInstr(op int) impl.Instr {
	i := impl.Instr{Op: op, A: 1, B: 1, C: 1}
	switch op {
	case impl.InsGetGlobal, impl.InsSetGlobal, impl.InsClosure, impl.InsSetField:
		i.B = 0
	case impl.InsGetField, impl.InsSelf:
		i.C = 0
	case impl.InsJump, impl.InsJumpIf, impl.InsJumpNot, impl.InsForPrep, impl.InsForLoop, impl.InsEachLoop:
		i.B = 2
	}
	return i
}

func TestVerifyEachInstruction(t *testing.T) {
	if ops := knownOps(); len(ops) != 52 {
		t.Errorf("there are %d instructions", len(ops))
	}
	for _, op := range knownOps() {
		if op == impl.InsSetList {
			checkSubject(t, 0, 0, tick, dots, safeInstr(op), tick, end)
			continue
		}
		checkIn(t, 0, safeInstr(op))
	}
}

func TestVerifyNumberOfFunctions(t *testing.T) {
	for _, c := range []struct{ count, code int }{{0, impl.ChunkShape}, {1, 0}, {2, 0}, {impl.MaxProtos, 0}, {impl.MaxProtos + 1, impl.ChunkShape}, {70000, impl.ChunkShape}} {
		checkVerdict(t, fmt.Sprintf("%d functions", c.count), impl.Chunk{Protos: many(plainProto(), c.count)}, impl.Verdict{Code: c.code})
	}
	checkVerdict(t, "an empty list", impl.Chunk{Protos: []impl.Proto{}}, impl.Verdict{Code: impl.ChunkShape})
	wrong := many(plainProto(), impl.MaxProtos+1)
	wrong[3].Code = []impl.Instr{{Op: 99}}
	checkVerdict(t, "too many functions, one of them wrong", impl.Chunk{Protos: wrong}, impl.Verdict{Code: impl.ChunkShape})
	checkVerdict(t, "the last of many is wrong", impl.Chunk{Protos: append(many(plainProto(), impl.MaxProtos-1), impl.Proto{})}, impl.Verdict{Code: impl.ChunkShape, Proto: impl.MaxProtos - 1})
}

// checkShape looks at a chunk of three functions of which one is changed, the one in each place; the last may be left out.
func checkShape(t *testing.T, what string, wrong, last bool, change func(p *impl.Proto)) {
	t.Helper()
	for place := range 3 {
		if place == 2 && !last {
			continue
		}
		c := impl.Chunk{Protos: []impl.Proto{plainProto(), plainProto(), plainProto()}}
		change(&c.Protos[place])
		want := impl.Verdict{}
		if wrong {
			want = impl.Verdict{Code: impl.ChunkShape, Proto: place}
		}
		checkVerdict(t, fmt.Sprintf("%s of function %d", what, place), c, want)
	}
}

func TestVerifyShape(t *testing.T) {
	code := func(count int) func(p *impl.Proto) {
		return func(p *impl.Proto) {
			p.Code, p.Lines = append(many(tick, max(count-1, 0)), end)[:count], many(1, count)
		}
	}
	params := func(params, regs int) func(p *impl.Proto) {
		return func(p *impl.Proto) { p.Params, p.Regs = params, regs }
	}
	ups := func(count int) func(p *impl.Proto) {
		return func(p *impl.Proto) { p.Ups = many(impl.Up{FromLocal: true, Index: 255}, count) }
	}
	consts := func(count int) func(p *impl.Proto) {
		return func(p *impl.Proto) { p.Consts = many(impl.Const{Kind: impl.NodeInt}, count) }
	}
	for _, c := range []struct {
		what        string
		wrong, last bool
		change      func(p *impl.Proto)
	}{
		{"no parameter", false, true, params(0, 1)},
		{"a parameter", false, false, params(1, 1)},
		{"a parameter too many for one register", true, true, params(2, 1)},
		{"180 parameters", false, false, params(180, 180)},
		{"180 parameters in more registers", false, false, params(180, 250)},
		{"181 parameters", true, true, params(181, 181)},
		{"181 parameters in more registers", true, true, params(181, 250)},
		{"180 parameters in 179 registers", true, true, params(180, 179)},
		{"no register", true, true, params(0, 0)},
		{"250 registers", false, true, params(0, 250)},
		{"251 registers", true, true, params(0, 251)},
		{"255 registers", true, true, params(0, 255)},
		{"60 upvalues", false, false, ups(60)},
		{"61 upvalues", true, true, ups(61)},
		{"255 upvalues", true, true, ups(255)},
		{"4000 constants", false, true, consts(4000)},
		{"4001 constants", true, true, consts(4001)},
		{"65535 constants", true, true, consts(65535)},
		{"no instruction", true, true, code(0)},
		{"an instruction", false, true, code(1)},
		{"20000 instructions", false, true, code(20000)},
		{"20001 instructions", true, true, code(20001)},
		{"65535 instructions", true, true, code(65535)},
		{"a line too few", true, true, func(p *impl.Proto) { p.Lines = p.Lines[:1] }},
		{"no line", true, true, func(p *impl.Proto) { p.Lines = nil }},
		{"a line too many", true, true, func(p *impl.Proto) { p.Lines = append(p.Lines, 1) }},
		{"a constant of another kind", true, true, func(p *impl.Proto) { p.Consts = []impl.Const{{Kind: impl.NodeInt}, {Kind: impl.NodeNil}} }},
		{"a field of another kind", true, true, func(p *impl.Proto) { p.Consts = []impl.Const{{Kind: impl.NodeInt, Text: "x"}} }},
		{"a long string", false, true, func(p *impl.Proto) {
			p.Consts = []impl.Const{{Kind: impl.NodeString, Text: strings.Repeat("x", 65536)}}
		}},
		{"a string too long", true, true, func(p *impl.Proto) {
			p.Consts = []impl.Const{{Kind: impl.NodeString, Text: strings.Repeat("x", 65537)}}
		}},
		{"a nan", false, true, func(p *impl.Proto) { p.Consts = []impl.Const{{Kind: impl.NodeFloat, Bits: 0x7FF8000000000000}} }},
		{"another nan", true, true, func(p *impl.Proto) { p.Consts = []impl.Const{{Kind: impl.NodeFloat, Bits: 0xFFF8000000000000}} }},
	} {
		checkShape(t, c.what, c.wrong, c.last, c.change)
	}
}

// All that WriteChunk refuses is the shape, also where it is at an instruction.
func TestVerifyShapeOfNumbers(t *testing.T) {
	subject := func(p *impl.Proto) {
		full := fullProto()
		p.Regs, p.Ups, p.Consts = 20, nil, full.Consts
		p.Code, p.Lines = []impl.Instr{tick, {Op: impl.InsJump, B: 2}, end}, []int{1, 2, 3}
	}
	for _, number := range placedNumbers() {
		for _, n := range []int{number.least - 1, number.greatest + 1, math.MinInt, math.MaxInt, 1 << 40, -1 << 40, -1 << 32} {
			if n < number.least || n > number.greatest {
				checkShape(t, fmt.Sprintf("%d as %s", n, number.name), true, true, func(p *impl.Proto) {
					subject(p)
					p.Ups = many(impl.Up{}, 2)
					number.set(p, n)
				})
			}
		}
	}
	checkShape(t, "nothing", false, true, subject)
	for _, line := range []int{0, math.MaxInt32} {
		checkShape(t, "its line", false, true, func(p *impl.Proto) { p.Line = line })
		checkShape(t, "a line", false, true, func(p *impl.Proto) { p.Lines[1] = line })
	}
	// What an instruction doesn't look at may be anything that has a place.
	for _, n := range []int{math.MinInt32, math.MaxInt32} {
		checkShape(t, "a tick", false, true, func(p *impl.Proto) { p.Code[0] = impl.Instr{Op: impl.InsTick, A: 255, B: n, C: n} })
		checkShape(t, "a jump", false, true, func(p *impl.Proto) { p.Code[0] = impl.Instr{Op: impl.InsJump, A: 255, B: 1, C: n} })
		checkShape(t, "a move", false, true, func(p *impl.Proto) { p.Code[0] = impl.Instr{Op: impl.InsMove, C: n} })
	}
}

// The last function is the text's: nothing gives it arguments by number, or variables.
func TestVerifyLastFunction(t *testing.T) {
	for _, count := range []int{1, 2, 5} {
		for place := range count {
			for _, change := range []func(p *impl.Proto){
				func(p *impl.Proto) { p.Params = 1 },
				func(p *impl.Proto) { p.Ups = []impl.Up{{FromLocal: true}} },
				func(p *impl.Proto) { p.Ups = []impl.Up{{}} },
				func(p *impl.Proto) { p.Dots = false },
			} {
				c := impl.Chunk{Protos: many(plainProto(), count)}
				change(&c.Protos[place])
				want := impl.Verdict{}
				if place == count-1 {
					want = impl.Verdict{Code: impl.ChunkShape, Proto: place}
				}
				checkVerdict(t, fmt.Sprintf("function %d of %d", place, count), c, want)
			}
		}
	}
}

func TestVerifyOp(t *testing.T) {
	for op := range 256 {
		known := op >= 1 && op <= 38 || op >= 65 && op <= 78
		got := impl.Verify(subjectIn(tick, impl.Instr{Op: op, A: 255, B: -5, C: -5}, end))
		if told := got == (impl.Verdict{Code: impl.ChunkOp, Proto: 1, At: 1}); told == known {
			t.Errorf("Op %d: %+v", op, got)
		}
		if !known {
			checkIn(t, impl.ChunkOp, impl.Instr{Op: op})
			checkSubject(t, impl.ChunkOp, 0, impl.Instr{Op: op}, end)
			checkSubject(t, impl.ChunkOp, 1, tick, impl.Instr{Op: op})
		}
	}
}

// An operand of an instruction, by name.
func setOperand(i impl.Instr, name string, n int) impl.Instr {
	switch name {
	case "A":
		i.A = n
	case "B":
		i.B = n
	case "C":
		i.C = n
	}
	return i
}

// registerOps are the instructions whose operand of a name is a register, as chapter 9 tells them.
func registerOps(name string) []int {
	of := slices.Concat([]int{impl.InsGetIndex, impl.InsSetIndex, impl.InsConcat, impl.InsEq, impl.InsLt, impl.InsLe}, opsBetween(impl.NumAdd, impl.NumShr))
	switch name {
	case "A":
		return slices.DeleteFunc(knownOps(), func(op int) bool { return op == impl.InsTick || op == impl.InsJump })
	case "B":
		return slices.Concat(of, []int{impl.InsMove, impl.InsNot, impl.InsLen, impl.InsGetField, impl.InsSelf}, opsBetween(impl.NumNeg, impl.NumNot))
	}
	return slices.Concat(of, []int{impl.InsSetField, impl.InsSetItem})
}

func TestVerifyRegisters(t *testing.T) {
	beyond := map[int]int{impl.InsSelf: 1, impl.InsForPrep: 3, impl.InsForLoop: 3, impl.InsEachLoop: 3, impl.InsEach: 5}
	for _, op := range knownOps() {
		for _, name := range []string{"A", "B", "C"} {
			isRegister := slices.Contains(registerOps(name), op)
			for _, n := range []int{math.MinInt32, -11, -1, 0, 1, 2, 3, 4, 5, 6, 7, 8, 9, 10, 11, 249, 250, 255, 256, math.MaxInt32} {
				if name == "A" && (n < 0 || n > 255) {
					continue
				}
				most := subjectRegs - 1
				if name == "A" {
					most -= beyond[op]
				}
				list := []impl.Instr{tick, setOperand(safeInstr(op), name, n), tick, end}
				got := impl.Verify(subjectIn(list...))
				told := got == impl.Verdict{Code: impl.ChunkReg, Proto: 1, At: 1}
				if want := isRegister && (n < 0 || n > most); told != want || modelVerify(subjectIn(list...)) != got {
					t.Errorf("%s: Verify tells %+v, want a wrong register: %v", instrText(list[1]), got, want)
				}
			}
		}
	}
}

// What is last and first of the registers, told once more by hand.
func TestVerifyRegistersByHand(t *testing.T) {
	for _, c := range []struct{ right, wrong impl.Instr }{
		{impl.Instr{Op: impl.InsMove, A: 9, B: 9}, impl.Instr{Op: impl.InsMove, A: 9, B: 10}},
		{impl.Instr{Op: impl.InsMove, B: 0}, impl.Instr{Op: impl.InsMove, B: -1}},
		{impl.Instr{Op: impl.InsTable, A: 9}, impl.Instr{Op: impl.InsTable, A: 10}},
		{impl.Instr{Op: impl.InsClose, A: 9}, impl.Instr{Op: impl.InsClose, A: 10}},
		{impl.Instr{Op: impl.InsTbc, A: 9}, impl.Instr{Op: impl.InsTbc, A: 10}},
		{impl.Instr{Op: impl.InsReturn, A: 9, B: 1}, impl.Instr{Op: impl.InsReturn, A: 10, B: 1}},
		{impl.Instr{Op: impl.InsSetUp, A: 9}, impl.Instr{Op: impl.InsSetUp, A: 10}},
		{impl.Instr{Op: impl.InsSetGlobal, A: 9}, impl.Instr{Op: impl.InsSetGlobal, A: 10}},
		{impl.Instr{Op: impl.InsSelf, A: 8, B: 9}, impl.Instr{Op: impl.InsSelf, A: 9, B: 9}},
		{impl.Instr{Op: impl.InsSelf, A: 8, B: 9}, impl.Instr{Op: impl.InsSelf, A: 8, B: 10}},
		{impl.Instr{Op: impl.InsForPrep, A: 6, B: 2}, impl.Instr{Op: impl.InsForPrep, A: 7, B: 2}},
		{impl.Instr{Op: impl.InsForLoop, A: 6, B: 2}, impl.Instr{Op: impl.InsForLoop, A: 7, B: 2}},
		{impl.Instr{Op: impl.InsEachLoop, A: 6, B: 2}, impl.Instr{Op: impl.InsEachLoop, A: 7, B: 2}},
		{impl.Instr{Op: impl.InsEach, A: 4, B: 1}, impl.Instr{Op: impl.InsEach, A: 5, B: 1}},
		{impl.Instr{Op: impl.InsSetItem, A: 9, B: 1, C: 9}, impl.Instr{Op: impl.InsSetItem, A: 9, B: 1, C: 10}},
		{impl.Instr{Op: impl.InsSetItem, A: 9, B: 1, C: 0}, impl.Instr{Op: impl.InsSetItem, A: 9, B: 1, C: -1}},
		{impl.Instr{Op: impl.InsSetField, C: 9}, impl.Instr{Op: impl.InsSetField, C: 10}},
		{impl.Instr{Op: impl.InsArith + impl.NumShr, C: 9}, impl.Instr{Op: impl.InsArith + impl.NumShr, C: 10}},
		{impl.Instr{Op: impl.InsArith + impl.NumNot, B: 9, C: 10}, impl.Instr{Op: impl.InsArith + impl.NumNot, B: 10}},
		{impl.Instr{Op: impl.InsJump, A: 255, B: 2}, impl.Instr{Op: impl.InsJumpIf, A: 10, B: 2}},
	} {
		checkIn(t, 0, c.right)
		checkIn(t, impl.ChunkReg, c.wrong)
	}
	checkSubject(t, 0, 0, tick, dots, impl.Instr{Op: impl.InsSetList, A: 8, B: 1}, end)
	checkSubject(t, impl.ChunkReg, 0, impl.Instr{Op: impl.InsSetList, A: 10, B: 1}, end)
}

func TestVerifyConstants(t *testing.T) {
	// Of the four constants the first and the last are strings.
	kinds := map[int]string{0: "string", 1: "int", 2: "float", 3: "string"}
	for _, op := range knownOps() {
		name := map[int]string{impl.InsConst: "B", impl.InsGetGlobal: "B", impl.InsSetGlobal: "B", impl.InsSetField: "B", impl.InsGetField: "C", impl.InsSelf: "C"}[op]
		if name == "" {
			continue
		}
		for _, n := range []int{math.MinInt32, -4, -1, 0, 1, 2, 3, 4, 5, 255, 4000, math.MaxInt32} {
			right := kinds[n] != "" && (op == impl.InsConst || kinds[n] == "string")
			code := impl.ChunkConst
			if right {
				code = 0
			}
			checkIn(t, code, setOperand(safeInstr(op), name, n))
		}
		c := subjectIn(tick, setOperand(safeInstr(op), name, 0), end)
		c.Protos[1].Consts = nil
		checkVerdict(t, "a function without constants", c, impl.Verdict{Code: impl.ChunkConst, Proto: 1, At: 1})
	}
}

func TestVerifyUpvalues(t *testing.T) {
	for _, op := range []int{impl.InsGetUp, impl.InsSetUp} {
		for n, code := range map[int]int{math.MinInt32: impl.ChunkUp, -1: impl.ChunkUp, 0: 0, 1: 0, 2: impl.ChunkUp, 3: impl.ChunkUp, math.MaxInt32: impl.ChunkUp} {
			checkIn(t, code, impl.Instr{Op: op, A: 9, B: n})
		}
		c := impl.Chunk{Protos: []impl.Proto{plainProto()}}
		c.Protos[0].Code[0] = impl.Instr{Op: op}
		checkVerdict(t, "a function without upvalues", c, impl.Verdict{Code: impl.ChunkUp})
	}
}

func TestVerifyClosures(t *testing.T) {
	closure := func(n int) impl.Instr { return impl.Instr{Op: impl.InsClosure, B: n} }
	for place := range 4 {
		for _, n := range []int{math.MinInt32, -1, 0, 1, 2, 3, 4, math.MaxInt32} {
			c := impl.Chunk{Protos: many(plainProto(), 4)}
			c.Protos[place].Code = []impl.Instr{closure(n), end}
			want := impl.Verdict{Code: impl.ChunkProto, Proto: place}
			if n >= 0 && n < place {
				want = impl.Verdict{}
			}
			checkVerdict(t, fmt.Sprintf("a closure of function %d in function %d", n, place), c, want)
		}
	}
	// The subject has ten registers and two upvalues.
	for _, up := range []struct {
		impl.Up
		right bool
	}{
		{impl.Up{FromLocal: true, Index: 0}, true}, {impl.Up{FromLocal: true, Index: 9}, true}, {impl.Up{FromLocal: true, Index: 10}, false}, {impl.Up{FromLocal: true, Index: 255}, false},
		{impl.Up{Index: 0}, true}, {impl.Up{Index: 1}, true}, {impl.Up{Index: 2}, false}, {impl.Up{Index: 9}, false}, {impl.Up{Index: 255}, false},
	} {
		for place := range 2 {
			c := subjectIn(tick, tick, closure(0), end)
			c.Protos[0].Ups[place] = up.Up
			want := impl.Verdict{Code: impl.ChunkProto, Proto: 1, At: 2}
			if up.right {
				want = impl.Verdict{}
			}
			checkVerdict(t, fmt.Sprintf("a closure that takes %+v", up.Up), c, want)
		}
	}
	// The registers that count are those of the function that makes the closure, not of the one it is made of.
	small := subjectIn(tick, closure(0), end)
	small.Protos[0].Regs = 250
	small.Protos[1].Regs = 9
	checkVerdict(t, "a closure that takes one register too many", small, impl.Verdict{Code: impl.ChunkProto, Proto: 1, At: 1})
	// What no function makes a closure of may take anything.
	unused := subjectIn(tick, end)
	unused.Protos[0].Ups[0].Index = 255
	checkVerdict(t, "a function that no other makes a closure of", unused, impl.Verdict{})
	// A closure made in two functions is looked at in both.
	twice := impl.Chunk{Protos: []impl.Proto{innerProto(), subjectIn(closure(0), end).Protos[1], plainProto()}}
	twice.Protos[2].Code = []impl.Instr{tick, closure(0), end}
	twice.Protos[2].Lines = many(1, 3)
	checkVerdict(t, "a closure in the last function", twice, impl.Verdict{Code: impl.ChunkProto, Proto: 2, At: 1})
}

func jumpOps() []int {
	return []int{impl.InsJump, impl.InsJumpIf, impl.InsJumpNot, impl.InsForPrep, impl.InsForLoop, impl.InsEachLoop}
}

func TestVerifyJumps(t *testing.T) {
	for _, op := range jumpOps() {
		// A jump stands at 2; there are ticks at 1, 3 and 4.
		for _, c := range []struct {
			to   int
			code int
		}{
			{math.MinInt32, impl.ChunkJump}, {-1, impl.ChunkJump}, {0, impl.ChunkJump}, {1, 0}, {2, impl.ChunkJump}, {3, 0}, {4, 0}, {5, 0}, {6, 0}, {7, impl.ChunkJump}, {8, impl.ChunkJump}, {math.MaxInt32, impl.ChunkJump},
		} {
			checkSubject(t, c.code, 2, impl.Instr{Op: impl.InsTable}, tick, impl.Instr{Op: op, B: c.to}, tick, tick, impl.Instr{Op: impl.InsTable}, end)
		}
		checkSubject(t, 0, 0, impl.Instr{Op: op, B: 1}, end)
		checkSubject(t, impl.ChunkJump, 0, impl.Instr{Op: op, B: 0}, end)
		checkSubject(t, impl.ChunkJump, 0, impl.Instr{Op: op, B: 2}, end)
		checkSubject(t, 0, 0, tick, impl.Instr{Op: op, B: 0}, end)
	}
	// The last instruction may be a jump back to a tick, and to nothing else.
	checkSubject(t, 0, 0, tick, impl.Instr{Op: impl.InsJump})
	checkSubject(t, impl.ChunkJump, 0, impl.Instr{Op: impl.InsJump})
	checkSubject(t, impl.ChunkJump, 1, tick, impl.Instr{Op: impl.InsJump, B: 1})
	checkSubject(t, impl.ChunkJump, 1, tick, impl.Instr{Op: impl.InsJump, B: 2})
	checkSubject(t, impl.ChunkJump, 1, impl.Instr{Op: impl.InsTable}, impl.Instr{Op: impl.InsJump})
}

// A jump doesn't go to what takes what is open, ahead or behind; to the same instruction with its own values it may.
func TestVerifyJumpsToWhatTakes(t *testing.T) {
	for _, op := range jumpOps() {
		for _, c := range []struct {
			taker impl.Instr
			takes bool
		}{
			{impl.Instr{Op: impl.InsCall, A: 2, C: 1}, true}, {impl.Instr{Op: impl.InsCall, A: 2, B: 1, C: 1}, false},
			{impl.Instr{Op: impl.InsTail, A: 2}, true}, {impl.Instr{Op: impl.InsTail, A: 2, B: 1}, false},
			{impl.Instr{Op: impl.InsReturn, A: 2}, true}, {impl.Instr{Op: impl.InsReturn, A: 2, B: 1}, false},
			{impl.Instr{Op: impl.InsSetList, A: 2, B: 1}, true}, {impl.Instr{Op: impl.InsSetItem, A: 2, B: 1}, false},
		} {
			code, ahead := 0, impl.Instr{Op: impl.InsDots, A: 9, B: 1}
			if c.takes {
				code, ahead = impl.ChunkJump, dots
			}
			checkSubject(t, code, 0, impl.Instr{Op: op, B: 3}, tick, ahead, c.taker, end)
			checkSubject(t, 0, 0, impl.Instr{Op: op, B: 2}, tick, ahead, c.taker, end)
			checkSubject(t, 0, 0, impl.Instr{Op: op, B: 4}, tick, ahead, c.taker, end)
			checkSubject(t, impl.ChunkJump, 3, tick, ahead, c.taker, impl.Instr{Op: op, B: 2}, end)
		}
	}
}

func TestVerifyOpen(t *testing.T) {
	takers := func(a int) []impl.Instr {
		return []impl.Instr{{Op: impl.InsCall, A: a, C: 1}, {Op: impl.InsTail, A: a}, {Op: impl.InsSetList, A: a, B: 1}, {Op: impl.InsReturn, A: a + 1}}
	}
	for _, leaver := range []impl.Instr{{Op: impl.InsCall, A: 5, B: 1}, {Op: impl.InsDots, A: 5}} {
		// Call, Tail and SetList take from behind A on, Return from A on: each of these from a + 1 on.
		for a := range 8 {
			code := 0
			if a+1 > 5 {
				code = impl.ChunkOpen
			}
			for _, taker := range takers(a) {
				checkSubject(t, code, 1, tick, leaver, taker, end)
				checkSubject(t, code, 0, leaver, taker, end)
			}
		}
		checkSubject(t, 0, 0, tick, leaver, impl.Instr{Op: impl.InsReturn, A: 0})
		// Nothing else takes anything, whatever it names.
		for _, op := range knownOps() {
			if op != impl.InsSetList {
				checkSubject(t, impl.ChunkOpen, 0, leaver, safeInstr(op), tick, end)
			}
		}
		// The last instruction has no next one.
		checkSubject(t, impl.ChunkOpen, 1, tick, leaver)
		checkSubject(t, impl.ChunkOpen, 0, leaver)
		checkSubject(t, impl.ChunkOpen, 1, tick, leaver, tick, leaver, impl.Instr{Op: impl.InsReturn})
	}
	for _, taker := range takers(1) {
		// The first instruction has none ahead; another must leave something.
		checkSubject(t, impl.ChunkOpen, 0, taker, end)
		checkSubject(t, impl.ChunkOpen, 1, tick, taker, end)
		checkSubject(t, impl.ChunkOpen, 1, impl.Instr{Op: impl.InsCall, A: 5, B: 1, C: 1}, taker, end)
		checkSubject(t, impl.ChunkOpen, 1, impl.Instr{Op: impl.InsDots, A: 5, B: 1}, taker, end)
		checkSubject(t, impl.ChunkOpen, 2, dots, taker, taker, end)
		checkSubject(t, impl.ChunkOpen, 2, dots, impl.Instr{Op: impl.InsCall, A: 2, C: 1}, taker, end)
	}
	// One that takes and leaves, in a row.
	row := func(a int) impl.Instr { return impl.Instr{Op: impl.InsCall, A: a} }
	checkSubject(t, 0, 0, dots, row(8), row(7), row(3), impl.Instr{Op: impl.InsReturn, A: 3})
	checkSubject(t, impl.ChunkOpen, 2, dots, row(8), row(3), row(3), impl.Instr{Op: impl.InsReturn, A: 3})
	checkSubject(t, impl.ChunkOpen, 3, dots, row(8), row(7), row(3), impl.Instr{Op: impl.InsReturn, A: 4})
	checkSubject(t, impl.ChunkOpen, 0, row(8), row(7), impl.Instr{Op: impl.InsReturn})
	checkSubject(t, impl.ChunkOpen, 1, dots, row(8))
}

func TestVerifyEnd(t *testing.T) {
	for _, op := range knownOps() {
		last, code := safeInstr(op), impl.ChunkEnd
		switch op {
		case impl.InsReturn, impl.InsTail:
			code = 0
		case impl.InsJump:
			last.B, code = 0, 0
		case impl.InsJumpIf, impl.InsJumpNot, impl.InsForPrep, impl.InsForLoop, impl.InsEachLoop:
			last.B = 0
		case impl.InsSetList:
			checkSubject(t, impl.ChunkEnd, 2, tick, dots, last)
			continue
		}
		checkSubject(t, code, 1, tick, last)
		checkSubject(t, 0, 0, tick, last, end)
		if op != impl.InsJump && op < impl.InsJumpIf {
			checkSubject(t, code, 0, last)
		}
	}
	checkSubject(t, 0, 0, end)
	checkSubject(t, 0, 0, end, end)
	checkSubject(t, 0, 0, impl.Instr{Op: impl.InsTail, A: 9, B: 1})
	checkSubject(t, 0, 0, dots, impl.Instr{Op: impl.InsTail, A: 8})
}

func TestVerifyDots(t *testing.T) {
	for _, i := range []impl.Instr{{Op: impl.InsDots}, {Op: impl.InsDots, B: 1}, {Op: impl.InsDots, A: 9, B: 2}} {
		for _, dots := range []bool{false, true} {
			c := subjectIn(tick, tick, i, impl.Instr{Op: impl.InsReturn, B: min(i.B, 1)})
			c.Protos[1].Dots = dots
			want := impl.Verdict{}
			if !dots {
				want = impl.Verdict{Code: impl.ChunkDots, Proto: 1, At: 2}
			}
			checkVerdict(t, fmt.Sprintf("%+v with Dots %v", i, dots), c, want)
		}
	}
	for _, op := range knownOps() {
		if op != impl.InsDots && op != impl.InsSetList {
			c := subjectIn(tick, safeInstr(op), tick, end)
			c.Protos[1].Dots = false
			checkVerdict(t, "a function without Dots", c, impl.Verdict{})
		}
	}
}

// checkCounts looks at an operand from one below the least to one above the greatest, and far away.
func checkCounts(t *testing.T, i impl.Instr, name string, least, most int) {
	t.Helper()
	for _, n := range []int{math.MinInt32, least - 1, least, most, most + 1, math.MaxInt32} {
		i := setOperand(i, name, n)
		code := 0
		if n < least || n > most {
			code = impl.ChunkCount
		}
		switch {
		case n < math.MinInt32 || n > math.MaxInt32:
		case i.Op == impl.InsSetList:
			checkSubject(t, code, 1, dots, i, end)
		case leavesOpen(i):
			checkSubject(t, code, 1, tick, i, impl.Instr{Op: impl.InsReturn, A: i.A}, end)
		case i.Op == impl.InsSetItem:
			checkIn(t, code, i)
		default:
			if _, takes := takesOpen(i); takes {
				checkSubject(t, code, 1, impl.Instr{Op: impl.InsDots, A: 9}, i, end)
				continue
			}
			checkIn(t, code, i)
		}
	}
}

func TestVerifyCounts(t *testing.T) {
	for a := range subjectRegs {
		left := subjectRegs - a
		checkCounts(t, impl.Instr{Op: impl.InsNil, A: a}, "B", 1, left)
		checkCounts(t, impl.Instr{Op: impl.InsBool, A: a}, "B", 0, 1)
		checkCounts(t, impl.Instr{Op: impl.InsInt, A: a}, "B", -32768, 32767)
		checkCounts(t, impl.Instr{Op: impl.InsSetItem, A: a}, "B", 1, math.MaxInt32)
		checkCounts(t, impl.Instr{Op: impl.InsCall, A: a, B: 1}, "C", 0, left+1)
		checkCounts(t, impl.Instr{Op: impl.InsReturn, A: a}, "B", 0, left+1)
		checkCounts(t, impl.Instr{Op: impl.InsDots, A: a}, "B", 0, left+1)
		if a < subjectRegs-1 { // else there is no register from which it could take what is open
			checkCounts(t, impl.Instr{Op: impl.InsSetList, A: a}, "B", 1, math.MaxInt32)
			checkCounts(t, impl.Instr{Op: impl.InsCall, A: a, C: 1}, "B", 0, left)
			checkCounts(t, impl.Instr{Op: impl.InsTail, A: a}, "B", 0, left)
		}
		if a < subjectRegs-5 {
			checkCounts(t, impl.Instr{Op: impl.InsEach, A: a}, "B", 1, left-3)
		}
	}
	last := subjectRegs - 1
	checkIn(t, 0, impl.Instr{Op: impl.InsCall, A: last, B: 1, C: 2})
	checkIn(t, impl.ChunkCount, impl.Instr{Op: impl.InsCall, A: last, B: 2, C: 1})
	checkIn(t, impl.ChunkCount, impl.Instr{Op: impl.InsCall, A: last, B: -1, C: 1})
	checkIn(t, 0, impl.Instr{Op: impl.InsTail, A: last, B: 1})
	checkIn(t, impl.ChunkCount, impl.Instr{Op: impl.InsTail, A: last, B: 2})
	checkIn(t, impl.ChunkCount, impl.Instr{Op: impl.InsTail, A: last, B: -1})
	checkIn(t, impl.ChunkCount, impl.Instr{Op: impl.InsCall, A: 3, B: 8, C: 9})
	checkIn(t, impl.ChunkCount, impl.Instr{Op: impl.InsCall, A: 3, B: -1, C: 1})
	// Tail and Return have no C, Jump has no A.
	checkIn(t, 0, impl.Instr{Op: impl.InsTail, A: 1, B: 1, C: -7})
	checkIn(t, 0, impl.Instr{Op: impl.InsReturn, A: 1, B: 1, C: 7000})
}

// Instructions with two things wrong: the one that comes first in the list is told.
func TestVerifyOrderAtOneInstruction(t *testing.T) {
	for _, c := range []struct {
		code int
		i    impl.Instr
	}{
		{impl.ChunkOp, impl.Instr{Op: 39, A: 255, B: -1, C: -1}},
		{impl.ChunkReg, impl.Instr{Op: impl.InsConst, A: 10, B: 99}},
		{impl.ChunkReg, impl.Instr{Op: impl.InsGetField, A: 0, B: 10, C: 99}},
		{impl.ChunkReg, impl.Instr{Op: impl.InsSelf, A: 9, B: 0, C: 99}},
		{impl.ChunkReg, impl.Instr{Op: impl.InsSetField, A: 0, B: 99, C: 10}},
		{impl.ChunkReg, impl.Instr{Op: impl.InsSetField, A: 0, B: -1, C: -1}},
		{impl.ChunkReg, impl.Instr{Op: impl.InsGetUp, A: 10, B: 99}},
		{impl.ChunkReg, impl.Instr{Op: impl.InsClosure, A: 10, B: 99}},
		{impl.ChunkReg, impl.Instr{Op: impl.InsJumpIf, A: 10, B: 99}},
		{impl.ChunkReg, impl.Instr{Op: impl.InsForPrep, A: 7, B: 99}},
		{impl.ChunkReg, impl.Instr{Op: impl.InsCall, A: 10, B: 0, C: 99}},
		{impl.ChunkReg, impl.Instr{Op: impl.InsReturn, A: 10, B: 0}},
		{impl.ChunkReg, impl.Instr{Op: impl.InsNil, A: 10, B: 0}},
		{impl.ChunkReg, impl.Instr{Op: impl.InsSetItem, A: 0, B: 0, C: 10}},
		{impl.ChunkReg, impl.Instr{Op: impl.InsEach, A: 5, B: 0}},
		{impl.ChunkReg, impl.Instr{Op: impl.InsSetList, A: 10, B: 0}},
		{impl.ChunkOpen, impl.Instr{Op: impl.InsSetList, A: 0, B: 0}},
		{impl.ChunkOpen, impl.Instr{Op: impl.InsCall, A: 0, B: 0, C: 99}},
		{impl.ChunkOpen, impl.Instr{Op: impl.InsCall, A: 0, B: 99, C: 0}},
	} {
		checkIn(t, c.code, c.i)
		checkSubject(t, c.code, 1, tick, c.i)
	}
	// At the last instruction: what is open ahead of the end, the end ahead of dots and numbers.
	checkSubject(t, impl.ChunkJump, 1, tick, impl.Instr{Op: impl.InsJumpIf, B: 2})
	checkSubject(t, impl.ChunkUp, 1, tick, impl.Instr{Op: impl.InsGetUp, B: 2})
	checkSubject(t, impl.ChunkEnd, 1, tick, impl.Instr{Op: impl.InsNil})
	checkSubject(t, impl.ChunkEnd, 1, tick, impl.Instr{Op: impl.InsCall, B: 99, C: 99})
	checkSubject(t, impl.ChunkEnd, 2, tick, dots, impl.Instr{Op: impl.InsSetList})
	without := func(code, at int, list ...impl.Instr) {
		t.Helper()
		c := subjectIn(list...)
		c.Protos[1].Dots = false
		checkVerdict(t, fmt.Sprint(list), c, impl.Verdict{Code: code, Proto: 1, At: at})
	}
	without(impl.ChunkReg, 0, impl.Instr{Op: impl.InsDots, A: 10, B: 99}, end)
	without(impl.ChunkOpen, 0, impl.Instr{Op: impl.InsDots}, end)
	without(impl.ChunkOpen, 1, tick, impl.Instr{Op: impl.InsDots})
	without(impl.ChunkEnd, 1, tick, impl.Instr{Op: impl.InsDots, B: 99})
	without(impl.ChunkDots, 1, tick, impl.Instr{Op: impl.InsDots, B: 99}, end)
	without(impl.ChunkDots, 1, tick, impl.Instr{Op: impl.InsDots}, impl.Instr{Op: impl.InsReturn}, end)
}

// Of two instructions the first one's fault is told, of two functions the first one's, and a shape ahead of its instructions.
func TestVerifyOrderAcross(t *testing.T) {
	wrong := []struct {
		code int
		i    impl.Instr
	}{
		{impl.ChunkOp, impl.Instr{Op: 39}}, {impl.ChunkReg, impl.Instr{Op: impl.InsTable, A: 10}}, {impl.ChunkConst, impl.Instr{Op: impl.InsConst, B: 4}},
		{impl.ChunkUp, impl.Instr{Op: impl.InsGetUp, B: 2}}, {impl.ChunkProto, impl.Instr{Op: impl.InsClosure, B: 1}}, {impl.ChunkJump, impl.Instr{Op: impl.InsJump, B: 99}},
		{impl.ChunkOpen, impl.Instr{Op: impl.InsReturn}}, {impl.ChunkCount, impl.Instr{Op: impl.InsNil}},
	}
	for _, a := range wrong {
		for _, b := range wrong {
			checkSubject(t, a.code, 1, tick, a.i, tick, b.i, end)
			checkSubject(t, a.code, 1, tick, a.i, b.i)
			c := subjectIn(tick, tick, a.i, end)
			c.Protos[2] = subjectIn(b.i, end).Protos[1]
			c.Protos[2].Ups, c.Protos[2].Params = nil, 0
			checkVerdict(t, "two functions are wrong", c, impl.Verdict{Code: a.code, Proto: 1, At: 2})
			c.Protos[2].Regs = 0
			checkVerdict(t, "an instruction, and the shape of the next function", c, impl.Verdict{Code: a.code, Proto: 1, At: 2})
			c.Protos[1].Lines = nil
			checkVerdict(t, "a shape and an instruction", c, impl.Verdict{Code: impl.ChunkShape, Proto: 1})
			c.Protos[0].Code[0] = b.i
			if b.code != impl.ChunkUp && b.code != impl.ChunkReg {
				checkVerdict(t, "an instruction of the first function", c, impl.Verdict{Code: b.code})
			}
		}
		c := subjectIn(tick, a.i, tick)
		checkVerdict(t, "an instruction ahead of the end", c, impl.Verdict{Code: a.code, Proto: 1, At: 1})
	}
	checkSubject(t, impl.ChunkOp, 0, append(many(impl.Instr{Op: 99}, 3), tick)...)
}
