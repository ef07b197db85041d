package tests

import (
	"fmt"
	"strings"
	"sync"
	"testing"

	"loop.example/g00002/impl"
)

// inParallel does something for each number below the one told, by several workers.
func inParallel(count int, do func(i int)) {
	const workers = 8
	var group sync.WaitGroup
	for w := range workers {
		group.Add(1)
		go func() {
			defer group.Done()
			for i := w; i < count; i += workers {
				do(i)
			}
		}()
	}
	group.Wait()
}

// heapHead has things at hand by which the collector is seen: weak tables of all modes, objects with finalizers (f) and
// without, and what shows how many entries there are.
const heapHead = `local W = {setmetatable({}, {__mode = "k"}), setmetatable({}, {__mode = "v"}), setmetatable({}, {__mode = "kv"}), {}}
local A, B, C, D = {}, {}, {}, {}
local k = 0
local function f(act) k = k + 1 local i = k return setmetatable({}, {__gc = function(o) write("f", i, " ") if act == 1 then error("e") end if act == 2 then A[1] = o end if act == 3 then setmetatable(o, getmetatable(o)) end if act == 4 then W[1][o] = {} B = {o} end end}) end
local function c(act) k = k + 1 local i = k return setmetatable({}, {__close = function(o, e) write("c", i, " ") if act == 1 then error("e" .. i, 0) end if act == 2 then collectgarbage() end if act == 3 then pcall(coroutine.yield, i) end end}) end
local function n() for i = 1, 4 do local n = 0 for k, v in next, W[i] do n = n + 1 end write(n, ",") end write(" ") end
local T = {}
local function t(body) local co = coroutine.create(body) T[#T + 1] = co return co end
`

// heapGrower makes programs that move objects about and have the collector work.
type heapGrower struct {
	grower
	depth int
}

func (g *heapGrower) one(choices ...string) string { return choices[g.pick(len(choices))] }

func (g *heapGrower) place() string {
	return g.one("A", "B", "C", "D", "x", "y", "A[1]", "A[2]", "B.x", "C[1]", "D.y", "x", "G", "H")
}

func (g *heapGrower) object() string {
	switch g.pick(14) {
	case 0, 1, 2:
		return "{}"
	case 3:
		return "{" + g.place() + ", " + g.place() + "}"
	case 4, 5:
		return "f(" + g.one("", "1", "2", "3", "4") + ")"
	case 6:
		return "function() return " + g.place() + " end"
	case 7:
		return "function(v) " + g.place() + " = v return v end"
	case 8:
		return "coroutine.create(" + g.body() + ")"
	case 9:
		return "t(" + g.body() + ")"
	case 10:
		return "setmetatable({}, {__mode = '" + g.one("k", "v", "kv", "") + "'})"
	case 11:
		return "W[" + g.one("1", "2", "3", "4") + "]"
	}
	return g.place()
}

func (g *heapGrower) body() string {
	g.depth++
	defer func() { g.depth-- }()
	if g.depth > 3 {
		return "function() coroutine.yield() end"
	}
	return "function(...) local x, y = ... " + g.statements(4) + g.one("", "coroutine.yield(x) ", "coroutine.yield() "+g.statements(2)) + g.one("", "return x, y ", "return "+g.object()+" ", "error(x) ") + "end"
}

func (g *heapGrower) statements(most int) string {
	text := ""
	for range 1 + g.pick(most) {
		text += g.statement() + g.one(" ", " ", "\n")
	}
	return text
}

func (g *heapGrower) statement() string {
	if !g.spend() {
		return "n()"
	}
	target := func(p string) string {
		if strings.ContainsAny(p, "[.") {
			return "if type(" + p[:1] + ") == 'table' then " + p + " = VALUE end"
		}
		return p + " = VALUE"
	}
	set := func(v string) string { return strings.Replace(target(g.place()), "VALUE", v, 1) }
	switch g.pick(24) {
	case 0, 1, 2, 3:
		return set(g.object())
	case 4:
		return set("nil")
	case 5, 6:
		return "W[" + g.one("1", "2", "3", "4") + "][" + g.one("1", "2", "k", "{}") + "] = " + g.object()
	case 7:
		return "local o = " + g.object() + " W[" + g.one("1", "2", "3", "4") + "][o or 1] = " + g.one("1", "o", "{o}", g.object())
	case 8:
		return "collectgarbage()"
	case 9, 10, 11:
		return "collectgarbage('step', " + g.one("1", "5", "20", "60", "200", "1000000") + ")"
	case 12:
		return "collectgarbage('" + g.one("stop", "restart", "restart") + "')"
	case 13:
		return "write(collectgarbage('count'), ' ')"
	case 14, 15:
		return "n()"
	case 16:
		return "for i = 1, " + g.one("2", "3", "8") + " do local z = " + g.object() + " " + g.one("", "x = z ", "W[2][i] = z ") + "end"
	case 17:
		return "do local z <close> = c(" + g.one("", "2", "3") + ") " + g.statements(2) + "end"
	case 18:
		return "pcall(" + g.body() + ", " + g.object() + ")"
	case 19, 20:
		return "if #T > 0 then coroutine.resume(T[#T], " + g.object() + ") end"
	case 21:
		return "if #T > 0 then coroutine.close(table.remove(T)) end"
	case 22:
		return "pcall(function() local z <close> = c(" + g.one("", "1", "2") + ") " + g.statements(2) + g.one("", "error("+g.object()+") ", "return "+g.object()+" ") + "end)"
	}
	return "if type(" + g.place()[:1] + ") == 'function' then k = k end"
}

func heapTexts(count int) []string {
	const each = 900
	chance := words(count*5 + each)
	var texts []string
	for i := range count {
		g := heapGrower{grower: grower{chance: chance[5*i : 5*i+each], room: 10 + i%70}}
		texts = append(texts, heapHead+"local x, y\n"+g.statements(12)+"n() "+g.statements(8)+"collectgarbage() n()")
	}
	return texts
}

// heapLimits are limits by a number, of memory too.
func heapLimits(i int) impl.Limits {
	limits := impl.Limits{Steps: 3000, Frames: 40, Output: 5000, Pace: paces()[i%4]}
	switch i % 9 {
	case 1:
		limits.Steps = 40 + i%300
	case 2, 3:
		limits.Memory = 7400 + i%7*300
	case 4:
		limits.Frames = 3 + i%4
	case 5:
		limits.Pace = 1 + i%100
	}
	return limits
}

func TestExecOfRandomHeaps(t *testing.T) {
	t.Parallel()
	var lock sync.Mutex
	codes, faults, finals, memory, cycles := map[int]int{}, 0, 0, 0, 0
	texts := heapTexts(3000)
	inParallel(len(texts), func(i int) {
		chunk, fault := impl.Compile(texts[i])
		if fault.Code != 0 {
			lock.Lock()
			faults++
			lock.Unlock()
			return
		}
		limits := heapLimits(i)
		got := checkMachine(t, strings.TrimPrefix(texts[i], heapHead), chunk, limits)
		checkOutcome(t, texts[i], impl.Run(texts[i], limits), got)
		events, _ := impl.Trace(chunk, limits)
		lock.Lock()
		defer lock.Unlock()
		codes[got.Code]++
		for _, e := range events {
			switch e.Kind {
			case impl.EventFinal:
				finals++
			case impl.EventCycle:
				cycles++
			}
		}
		if strings.HasSuffix(got.Error, "not enough memory") {
			memory++
		}
	})
	told := fmt.Sprint(codes, faults, finals, memory, cycles)
	t.Log(told)
	if faults > 100 || codes[0] < 1000 || finals < 1000 || memory < 20 || cycles < 3000 {
		t.Error(told)
	}
}

// Programs of all sorts, with the numbers of objects, at each pace.
func TestExecOfRandomPrograms(t *testing.T) {
	t.Parallel()
	texts := grownRuns(2500, true)
	inParallel(len(texts), func(i int) {
		chunk, fault := impl.Compile(texts[i])
		if fault.Code != 0 {
			return
		}
		limits := someLimits(i)
		limits.Pace = paces()[i/7%4]
		if i%10 == 0 {
			limits.Memory = 16000
		}
		got := checkMachine(t, behindHead(texts[i]), chunk, limits)
		checkOutcome(t, texts[i], impl.Run(texts[i], limits), got)
	})
}

// turned changes some things of a chunk, each only if it is safe then.
func (g *grower) turned(chunk impl.Chunk, times int) impl.Chunk {
	for range times {
		changed := copyChunk(chunk)
		p := &changed.Protos[g.pick(len(changed.Protos))]
		if g.pick(3) > 0 {
			g.turnRegister(p)
		} else {
			g.turnProto(p)
		}
		if impl.Verify(changed).Code == 0 {
			chunk = changed
		}
	}
	return chunk
}

// turnRegister has an instruction name another register, constant or count, or stand for another of its form.
func (g *grower) turnRegister(p *impl.Proto) {
	i := &p.Code[g.pick(len(p.Code))]
	switch g.pick(8) {
	case 0, 1:
		i.A = g.pick(p.Regs)
	case 2, 3:
		i.B = g.pick(p.Regs + 1)
	case 4:
		i.C = g.pick(p.Regs + 1)
	case 5:
		i.Op = knownOps()[g.pick(len(knownOps()))]
	case 6:
		p.Lines[g.pick(len(p.Lines))] = g.pick(100)
	case 7:
		*i = impl.Instr{Op: []int{impl.InsClose, impl.InsTbc, impl.InsMove, impl.InsNil, impl.InsTable}[g.pick(5)], A: g.pick(p.Regs), B: 1}
	}
}

// The code of programs with things changed in it: safe ones are run, the others aren't.
func TestExecOfChangedCode(t *testing.T) {
	t.Parallel()
	texts := append(grownRuns(1300, true), heapTexts(1300)...)
	var lock sync.Mutex
	codes := map[int]int{}
	chance := words(len(texts)*3 + 2000)
	inParallel(len(texts), func(i int) {
		chunk, fault := impl.Compile(texts[i])
		if fault.Code != 0 {
			return
		}
		g := grower{chance: chance[3*i : 3*i+2000]}
		limits := heapLimits(i)
		limits.Steps = min(limits.Steps, 1500)
		for range 2 {
			chunk = g.turned(chunk, 1+g.pick(12))
			got := checkMachine(t, fmt.Sprintf("%s\n%.3000s", behindHead(texts[i]), codeText(chunk)), chunk, limits)
			lock.Lock()
			codes[got.Code]++
			lock.Unlock()
		}
		spoilt := copyChunk(chunk)
		g.turnProto(&spoilt.Protos[g.pick(len(spoilt.Protos))])
		if impl.Verify(spoilt).Code != 0 {
			checkOutcome(t, "spoilt", impl.Exec(spoilt, limits), impl.Outcome{Code: impl.OutChunk})
			lock.Lock()
			codes[impl.OutChunk]++
			lock.Unlock()
		}
	})
	t.Log(codes)
	if codes[0] < 1000 || codes[impl.OutError] < 1000 || codes[impl.OutChunk] < 400 {
		t.Errorf("%v", codes)
	}
}

// madeHead calls functions, which are made of instructions at random, with values of all kinds.
const madeHead = `local u1, u2, u3 = 1, {}, 3
local function f1(...) return u1, u2, u3 end
local function f2(...) return u1, u2, u3 end
local function f3(...) return u1, u2, u3 end
local m = {} for _, e in next, {"index", "newindex", "add", "concat", "eq", "lt", "le", "len", "call", "close", "gc"} do m["__" .. e] = function(a, b, c) write(e, " ") if b == 3 then error(e) end return b, c, u1 end end
local o = setmetatable({5, 6}, m)
local V = {1, 2.5, "x", true, {7, 8, x = 9}, o, type, function(...) return ... end, coroutine.create(print), setmetatable({}, {__mode = "v"}), 3, false, 0, -1, next, f1, f2, f3, math.huge}
local function p(...) for i = 1, select("#", ...) do local v = (select(i, ...)) write(type(v) == "table" and "t" or rawtostring(v), " ") end end
for i = 1, #V do
  p(pcall(f1, V[i], V[i * 7 % #V + 1], V[i * 3 % #V + 1], V[i * 5 % #V + 1], V[i * 11 % #V + 1]))
  p(pcall(f2, V[i * 3 % #V + 1], V[i], i, i + 2, 1, V[i * 2 % #V + 1]))
  p(coroutine.resume(coroutine.create(f3), i, 3, 1, V[i], V[i * 2 % #V + 1]))
end
p(u1, u2, u3)`

// madeProto puts instructions at random into a function; what isn't safe of it is put right by safely.
func (g *grower) madeProto(p *impl.Proto) {
	p.Regs, p.Params, p.Dots = 7+g.pick(4), g.pick(6), g.pick(3) > 0
	p.Consts = []impl.Const{{Kind: impl.NodeString, Text: "x"}, {Kind: impl.NodeString, Text: "len"}, {Kind: impl.NodeInt, Int: 70000}, {Kind: impl.NodeFloat, Bits: floatNumber(0.5).Bits}, {Kind: impl.NodeString, Text: "u"}}
	p.Code, p.Lines = []impl.Instr{{Op: impl.InsTick}}, []int{1}
	add := func(i impl.Instr) {
		p.Code, p.Lines = append(p.Code, i), append(p.Lines, 1+g.pick(50))
	}
	r := func() int { return g.pick(p.Regs) }
	for range 6 + g.pick(30) {
		i := impl.Instr{Op: knownOps()[g.pick(len(knownOps()))], A: r(), B: r(), C: r()}
		switch i.Op {
		case impl.InsConst, impl.InsGetGlobal, impl.InsSetGlobal, impl.InsSetField, impl.InsGetUp, impl.InsSetUp, impl.InsClosure, impl.InsBool:
			i.B = g.pick(3)
		case impl.InsGetField, impl.InsSelf:
			i.C = g.pick(2)
		case impl.InsJump, impl.InsJumpIf, impl.InsJumpNot, impl.InsForPrep, impl.InsForLoop, impl.InsEachLoop:
			i.B = len(p.Code) + 1 + g.pick(6)
			if g.pick(4) == 0 {
				i.B = g.pick(len(p.Code))
			}
		case impl.InsReturn:
			i = impl.Instr{Op: impl.InsTick}
		case impl.InsCall, impl.InsDots:
			if g.pick(2) == 0 {
				i.A, i.B, i.C = 2+g.pick(p.Regs-2), 1+g.pick(3), 0
				if i.Op == impl.InsDots {
					i.B = 0
				}
				add(i)
				i = impl.Instr{Op: []int{impl.InsCall, impl.InsTail, impl.InsSetList, impl.InsReturn}[g.pick(4)], A: g.pick(i.A), C: 1 + g.pick(3)}
				if i.Op == impl.InsSetList {
					i.B, i.C = 1+g.pick(4), 0
				}
			}
		}
		add(i)
		if g.pick(12) == 0 {
			add(impl.Instr{Op: impl.InsTick})
		}
	}
	add(impl.Instr{Op: impl.InsReturn, A: r(), B: 1 + g.pick(3)})
}

// safely puts another instruction in the place of each that isn't safe.
func safely(t *testing.T, chunk impl.Chunk) impl.Chunk {
	for {
		verdict := impl.Verify(chunk)
		if verdict.Code == 0 {
			return chunk
		}
		if verdict.Code == impl.ChunkShape {
			t.Errorf("%+v", verdict)
			return compiledPlain
		}
		p := chunk.Protos[verdict.Proto]
		p.Code[verdict.At] = impl.Instr{Op: impl.InsTick}
		if verdict.At == len(p.Code)-1 {
			p.Code[verdict.At] = impl.Instr{Op: impl.InsReturn, B: 1}
		}
	}
}

// compiledPlain is a chunk that does nothing.
var compiledPlain = impl.Chunk{Protos: []impl.Proto{{Regs: 1, Dots: true, Code: []impl.Instr{{Op: impl.InsReturn, B: 1}}, Lines: []int{1}}}}

func TestExecOfMadeCode(t *testing.T) {
	t.Parallel()
	const count, each = 2500, 600
	chance := words(count*7 + each)
	chunk := compiled(t, madeHead)
	var lock sync.Mutex
	codes, output := map[int]int{}, 0
	ops := map[int]int{}
	inParallel(count, func(i int) {
		g := grower{chance: chance[7*i : 7*i+each]}
		made := copyChunk(chunk)
		for n := range 3 {
			g.madeProto(&made.Protos[n])
		}
		made = safely(t, made)
		limits := heapLimits(i)
		got := checkMachine(t, codeText(impl.Chunk{Protos: made.Protos[:3]}), made, limits)
		lock.Lock()
		defer lock.Unlock()
		codes[got.Code]++
		output += len(got.Output)
		for _, p := range made.Protos[:3] {
			for _, instr := range p.Code {
				ops[instr.Op]++
			}
		}
	})
	t.Log(codes, output, len(ops))
	if codes[0] < 800 || output < 100000 || len(ops) != len(knownOps()) {
		t.Errorf("%v, %d bytes put out, %d kinds of instructions", codes, output, len(ops))
	}
}
