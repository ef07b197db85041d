package tests

import (
	"math"
	"slices"
	"testing"

	"loop.example/g00002/impl"
)

// Chunks of all sorts, safe and not: the verdict is that of the model, which says chapter 9 once more.

// checkVerdictByModel tells the code of the verdict.
func checkVerdictByModel(t *testing.T, c impl.Chunk) int {
	t.Helper()
	got, want := impl.Verify(c), modelVerify(c)
	if got != want {
		t.Fatalf("Verify tells %+v, the model %+v of\n%.2000s", got, want, codeText(c))
	}
	return got.Code
}

// Each instruction with operands at and around all that bounds them, in the middle and at both ends of its function.
func TestVerifyOfAllOperands(t *testing.T) {
	t.Parallel()
	some := []int{math.MinInt32, -32769, -32768, -1, 0, 1, 2, 3, 4, 6, 7, 8, 9, 10, 11, 12, 32767, 32768, math.MaxInt32}
	codes := map[int]int{}
	for _, op := range append(knownOps(), 0, 39, 64, 79, 255) {
		for _, a := range []int{0, 1, 4, 5, 6, 7, 8, 9, 10, 255} {
			for _, b := range some {
				for _, c := range some {
					i := impl.Instr{Op: op, A: a, B: b, C: c}
					for _, list := range [][]impl.Instr{
						{tick, i, tick, end},
						{i, end},
						{tick, i},
						{tick, dots, i, tick, end},
						{tick, i, {Op: impl.InsReturn, A: 4}, tick, end},
						{tick, {Op: impl.InsCall, A: 5, B: 1}, i, {Op: impl.InsSetList, A: 3, B: 1}, tick, end},
					} {
						codes[checkVerdictByModel(t, subjectIn(list...))]++
					}
				}
			}
		}
	}
	for _, code := range []int{0, impl.ChunkOp, impl.ChunkReg, impl.ChunkConst, impl.ChunkUp, impl.ChunkProto, impl.ChunkJump, impl.ChunkOpen, impl.ChunkEnd, impl.ChunkCount} {
		if codes[code] < 100 {
			t.Errorf("code %d comes but %d times: %v", code, codes[code], codes)
		}
	}
}

// Neighbours: all rows of up to four of the instructions that leave, take, jump or end something.
func TestVerifyOfAllRows(t *testing.T) {
	t.Parallel()
	all := []impl.Instr{
		tick, end, {Op: impl.InsTable}, {Op: impl.InsReturn, A: 1}, {Op: impl.InsReturn},
		{Op: impl.InsDots, A: 1}, {Op: impl.InsDots, A: 1, B: 1}, {Op: impl.InsCall, A: 1}, {Op: impl.InsCall}, {Op: impl.InsCall, A: 1, B: 1}, {Op: impl.InsCall, C: 1},
		{Op: impl.InsTail}, {Op: impl.InsTail, B: 1}, {Op: impl.InsSetList, B: 1}, {Op: impl.InsSetList, A: 1, B: 1},
		{Op: impl.InsJump}, {Op: impl.InsJump, B: 1}, {Op: impl.InsJump, B: 2}, {Op: impl.InsJump, B: 3}, {Op: impl.InsJumpIf, B: 2}, {Op: impl.InsForPrep, B: 1},
	}
	safe := 0
	rows := [][]impl.Instr{{}}
	for range 4 {
		var longer [][]impl.Instr
		for _, row := range rows {
			for _, i := range all {
				next := append(slices.Clone(row), i)
				longer = append(longer, next)
				if checkVerdictByModel(t, subjectIn(next...)) == 0 {
					safe++
				}
			}
		}
		rows = longer
	}
	if safe < 1000 {
		t.Errorf("there are but %d safe ones", safe)
	}
}

// turnProto changes one number or list of a function.
func (g *grower) turnProto(p *impl.Proto) {
	near := func(n int) int { return n + []int{-1, 1, 1, 2, -n, 250 - n, 256 - n, -n - 1}[g.pick(8)] }
	switch g.pick(12) {
	case 0:
		p.Params = near(p.Params)
	case 1:
		p.Regs = near(p.Regs)
	case 2:
		p.Dots = !p.Dots
	case 3:
		p.Ups = append(p.Ups, impl.Up{FromLocal: g.pick(2) == 0, Index: g.pick(4)})
	case 4:
		if n := len(p.Consts); n > 0 {
			p.Consts = p.Consts[:g.pick(n)]
		}
	case 5:
		if n := len(p.Ups); n > 0 {
			up := &p.Ups[g.pick(n)]
			up.Index, up.FromLocal = near(up.Index), g.pick(2) == 0
		}
	case 6:
		at := g.pick(len(p.Code))
		p.Code, p.Lines = slices.Delete(p.Code, at, at+1), slices.Delete(p.Lines, at, at+1)
	case 7:
		a, b := g.pick(len(p.Code)), g.pick(len(p.Code))
		p.Code[a], p.Code[b] = p.Code[b], p.Code[a]
	default:
		i := &p.Code[g.pick(len(p.Code))]
		operand := []*int{&i.Op, &i.A, &i.B, &i.C}[g.pick(4)]
		*operand = near(*operand)
	}
}

// The code of texts with something changed in it.
func TestVerifyOfChangedCode(t *testing.T) {
	t.Parallel()
	texts := codedTexts(1200)
	chance := words(len(texts)*60 + 100)
	codes := map[int]int{}
	for i, source := range texts {
		c, fault := impl.Compile(source)
		if fault.Code != 0 {
			continue
		}
		g := grower{chance: chance[60*i : 60*i+100]}
		for range 12 {
			turned := copyChunk(c)
			g.turnProto(&turned.Protos[g.pick(len(turned.Protos))])
			code := checkVerdictByModel(t, turned)
			codes[code]++
			if _, refused := impl.WriteChunk(turned); refused != 0 && code == 0 {
				t.Errorf("what WriteChunk refuses is told to be safe:\n%.2000s", codeText(turned))
			}
		}
	}
	for code := 0; code <= impl.ChunkCount; code++ {
		if codes[code] < 10 {
			t.Errorf("code %d comes but %d times: %v", code, codes[code], codes)
		}
	}
}

func TestVerifyOfRandomChunks(t *testing.T) {
	for _, c := range anyChunks(3000) {
		checkVerdictByModel(t, c)
	}
}

// Chapter 1: the argument stays as it was, what lies behind the ends of its lists too.
func TestVerifyLeavesItsArgument(t *testing.T) {
	whole, _ := impl.Compile("local a, b = 70000, 'x' function f(x, ...) g(...) return a, b, function() return a, x, 1.5 end end")
	wrong := subjectIn(tick, dots, impl.Instr{Op: impl.InsSetList, B: 0}, end)
	for _, c := range []impl.Chunk{copyChunk(whole), copyChunk(wrong), copyChunk(impl.Chunk{Protos: []impl.Proto{fullProto()}})} {
		was := wholeText(c)
		first := impl.Verify(c)
		if second := impl.Verify(c); second != first || wholeText(c) != was {
			t.Errorf("Verify tells %+v, then %+v; it has made\n%s of\n%s", first, second, wholeText(c), was)
		}
	}
}
