package tests

import (
	"fmt"
	"slices"
	"sync"
	"testing"

	"loop.example/g00002/impl"
)

// jumpyProto puts jumps, Moves and little else into a function; what isn't safe of it is put right by safely.
func (g *grower) jumpyProto(p *impl.Proto, most int) {
	p.Regs, p.Dots = 6, true
	p.Consts = []impl.Const{{Kind: impl.NodeString, Text: "a"}, {Kind: impl.NodeString, Text: "b"}, {Kind: impl.NodeInt, Int: 70000}, {Kind: impl.NodeString, Text: "c"}}
	p.Code, p.Lines = nil, nil
	count := 2 + g.pick(most)
	place := func(at int) int {
		switch g.pick(4) {
		case 0:
			return g.pick(count)
		case 1:
			return at + 1
		}
		return min(at+1+g.pick(8), count-1)
	}
	for at := range count {
		i := impl.Instr{Op: impl.InsTick}
		switch g.pick(12) {
		case 0, 1:
			i = impl.Instr{Op: impl.InsJump, B: place(at)}
		case 2, 3, 4:
			i = impl.Instr{Op: impl.InsJumpIf, A: g.pick(2), B: place(at)}
		case 5, 6, 7:
			i = impl.Instr{Op: impl.InsJumpNot, A: g.pick(2), B: place(at)}
		case 8, 9:
			i = impl.Instr{Op: impl.InsMove, A: g.pick(2), B: g.pick(2)}
		case 10:
			i = impl.Instr{Op: []int{impl.InsForPrep, impl.InsForLoop, impl.InsEachLoop}[g.pick(3)], A: g.pick(2), B: place(at)}
		case 11:
			i = []impl.Instr{{Op: impl.InsReturn, B: 2}, {Op: impl.InsConst, A: 0, B: g.pick(4)}, {Op: impl.InsGetGlobal, A: 1, B: g.pick(2)}, {Op: impl.InsNil, A: g.pick(2), B: 1}, {Op: impl.InsInt, A: g.pick(4), B: g.pick(3)}, {Op: impl.InsTail, A: g.pick(2), B: 1}}[g.pick(6)]
		}
		p.Code, p.Lines = append(p.Code, i), append(p.Lines, 100+at)
	}
	p.Code[count-1] = impl.Instr{Op: impl.InsReturn, A: g.pick(2), B: 1 + g.pick(3)}
}

// jumpyHead calls such functions with values that count as true and as false.
const jumpyHead = `local function f1(...) return 1 end
local function f2(...) return 2 end
local function f3(...) return 3 end
local V = {true, false, 1, 2, "x"}
for i = 1, #V do
  for _, f in next, {f1, f2, f3} do
    for j = 1, 3 do write(rawtostring((select(2, pcall(f, V[i], V[(i * j) % #V + 1], 1, 1)))), " ") end
  end
end`

// jumpyChunks are safe chunks whose first functions are jumpy, short ones and longer ones.
func jumpyChunks(t *testing.T, count int) []impl.Chunk {
	t.Helper()
	const each = 1000
	chance := words(count*5 + each)
	head := compiled(t, jumpyHead)
	chunks := make([]impl.Chunk, count)
	for i := range chunks {
		g := grower{chance: chance[5*i : 5*i+each]}
		made := copyChunk(head)
		for n := range 3 {
			p := &made.Protos[n]
			g.jumpyProto(p, 4+i%40)
			p.Params = 2
		}
		chunks[i] = safely(t, made)
	}
	return chunks
}

// smallLimits are limits by a number of which one or another is small, at the paces 0, 1 and 10.
func smallLimits(i int) impl.Limits {
	limits := impl.Limits{Steps: 4000, Frames: 40, Output: 5000, Pace: []int{0, 1, 10}[i/6%3]}
	switch i % 6 {
	case 1:
		limits.Steps = 1 + i%50
	case 2:
		limits.Frames = 1 + i%5
	case 3:
		limits.Output = i % 30
	case 4:
		limits.Memory = impl.HeapStart + i%9*500
	case 5:
		limits.Steps, limits.Memory = 200+i%300, 16000
	}
	return limits
}

// shrunk counts what has gone.
type shrunk struct {
	lock                                 sync.Mutex
	code, consts, functions, shorter, of int
	codes                                map[int]int
}

func (s *shrunk) add(chunk, got impl.Chunk, code int) {
	s.lock.Lock()
	defer s.lock.Unlock()
	if s.codes == nil {
		s.codes = map[int]int{}
	}
	size := func(c impl.Chunk) (code, consts int) {
		for _, p := range c.Protos {
			code, consts = code+len(p.Code), consts+len(p.Consts)
		}
		return code, consts
	}
	code1, consts1 := size(chunk)
	code2, consts2 := size(got)
	s.code, s.consts, s.functions = s.code+code1-code2, s.consts+consts1-consts2, s.functions+len(chunk.Protos)-len(got.Protos)
	if s.of++; code2 < code1 {
		s.shorter++
	}
	s.codes[code]++
}

func (s *shrunk) String() string {
	return fmt.Sprintf("of %d chunks %d are shorter, by %d instructions, %d constants, %d functions; they end with %v", s.of, s.shorter, s.code, s.consts, s.functions, s.codes)
}

// P26 for safe chunks that hold hardly more than jumps.
func TestOptimizeOfJumpyCode(t *testing.T) {
	t.Parallel()
	chunks := jumpyChunks(t, 6000)
	var told shrunk
	inParallel(len(chunks), func(i int) {
		name := codeText(impl.Chunk{Protos: chunks[i].Protos[:3]})
		got := checkShorter(t, name, chunks[i])
		code := 0
		if i%2 == 0 {
			code = checkSameRuns(t, name, chunks[i], got, smallLimits(i/2)).Code
		}
		told.add(chunks[i], got, code)
	})
	t.Log(told.String())
	if told.shorter < 5500 || told.code < 100000 || told.consts < 5000 || told.codes[impl.OutBudget] < 300 {
		t.Error(told.String())
	}
}

// P26 for safe chunks made of all instructions, for code with things changed in it, and for one with jumpy code put into it.
func TestOptimizeOfMadeCode(t *testing.T) {
	t.Parallel()
	const count, each = 1200, 600
	chance := words(count*7 + each)
	made := compiled(t, madeHead)
	texts := append(grownRuns(count/2, true), heapTexts(count/2)...)
	var told shrunk
	inParallel(count, func(i int) {
		g := grower{chance: chance[7*i : 7*i+each]}
		chunk := copyChunk(made)
		for n := range 3 {
			g.madeProto(&chunk.Protos[n])
		}
		chunks := []impl.Chunk{safely(t, chunk)}
		if changed, fault := impl.Compile(texts[i]); fault.Code == 0 {
			chunks = append(chunks, g.turned(changed, 1+g.pick(15)))
		}
		for n, chunk := range chunks {
			name := codeText(chunk)
			got := checkShorter(t, name, chunk)
			told.add(chunk, got, checkSameRuns(t, name, chunk, got, smallLimits(i+n)).Code)
		}
	})
	t.Log(told.String())
	if told.shorter < 1500 || told.codes[0] < 300 || told.codes[impl.OutError] < 300 || told.codes[impl.OutBudget] < 100 || told.codes[impl.OutOutput] < 100 {
		t.Error(told.String())
	}
}

// P26 for the chunks of texts: of all forms, programs that put out what they come by, and such as the collector is seen by.
func TestOptimizeOfTexts(t *testing.T) {
	t.Parallel()
	written, _ := grown(300)
	texts := slices.Concat(grownRuns(900, true), heapTexts(900), modestTexts(100), alone, deepTexts(), codedTexts(500), scopedTexts(300, 40), written)
	var told shrunk
	inParallel(len(texts), func(i int) {
		chunk, fault := impl.Compile(texts[i])
		if fault.Code != 0 {
			return
		}
		got := checkShorter(t, texts[i], chunk)
		told.add(chunk, got, checkSameRuns(t, texts[i], chunk, got, smallLimits(i)).Code)
	})
	t.Log(told.String())
	if told.of < 2500 || told.shorter < 1500 || told.codes[0] < 300 || told.codes[impl.OutError] < 300 || told.codes[impl.OutBudget] < 100 || told.codes[impl.OutOutput] < 50 {
		t.Error(told.String())
	}
}

// The prelude itself, and a long run at each pace.
func TestOptimizeOfThePrelude(t *testing.T) {
	t.Parallel()
	chunk := compiled(t, impl.Prelude()+"\nlocal t = {} for i = 1, 60 do t[i] = i * 7 % 31 end table.sort(t) print(table.concat(t, ' ')) print(string.gsub('a b c', '%a', {a = 1}))")
	got := checkShorter(t, "the prelude", chunk)
	for _, pace := range []int{0, 1, 10} {
		if out := checkSameRuns(t, "the prelude", chunk, got, paced(pace)); out.Code != 0 || len(out.Output) < 100 {
			t.Errorf("%s", outcomeText(out))
		}
	}
}

// All short rows of the instructions that are left out or make others so, those that are safe.
func TestOptimizeOfAllRows(t *testing.T) {
	t.Parallel()
	var all []impl.Instr
	for _, op := range []int{impl.InsJump, impl.InsJumpIf, impl.InsJumpNot} {
		for place := range 6 {
			all = append(all, impl.Instr{Op: op, B: place})
		}
	}
	all = append(all, tick, end, impl.Instr{Op: impl.InsMove}, impl.Instr{Op: impl.InsJumpIf, A: 1, B: 3}, impl.Instr{Op: impl.InsForPrep, B: 4})
	lines := []int{1, 2, 3, 4, 5, 6}
	var lock sync.Mutex
	safe, shorter := 0, 0
	inParallel(len(all), func(first int) {
		rows := [][]impl.Instr{{all[first]}}
		for range 4 {
			var longer [][]impl.Instr
			for _, row := range rows {
				for _, i := range all {
					next := append(slices.Clone(row), i)
					if len(next) < 5 {
						longer = append(longer, next)
					}
					next = append(slices.Clone(next), end)
					chunk := impl.Chunk{Protos: []impl.Proto{{Regs: 4, Dots: true, Code: next, Lines: lines[:len(next)]}}}
					if modelVerify(chunk).Code != 0 {
						continue
					}
					got, _ := impl.Optimize(chunk)
					if want, _ := modelOptimize(chunk); !sameChunk(got, want) {
						t.Errorf("of\n%s\nOptimize makes\n%s\nthe model\n%s", codeText(chunk), codeText(got), codeText(want))
					}
					lock.Lock()
					safe++
					if len(got.Protos[0].Code) < len(next) {
						shorter++
					}
					lock.Unlock()
				}
			}
			rows = longer
		}
	})
	t.Log(safe, shorter)
	if safe < 50000 || shorter < 40000 {
		t.Errorf("there are but %d safe ones, of which %d are made shorter", safe, shorter)
	}
}
