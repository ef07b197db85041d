package tests

import (
	"slices"
	"sync"

	"loop.example/g00002/impl"
)

// The model of chapter 14 carries chunks out in the threads and with the operations and primitives of chapter 13's model:
// a call of the program is a call of Go, a way out is given back as a value, and a thread that waits is an iterator that is
// asked for its next value. What a call holds stands in it for the collector (of the next file) to look at.

type runCode struct {
	chunk impl.Chunk
	proto impl.Proto
}

// runCell is a variable that closures share; while it is open its value is in a register.
type runCell struct {
	value    any
	call     *runCall // whose register it is, none if it isn't open
	register int
}

// machineCall is what a call of a chunk's function has.
type machineCall struct {
	regs     []any
	spread   []any // what is open, from openAt on
	openAt   int
	notes    []int // the registers that are to be closed
	cells    []*runCell
	shutting bool
	waiting  []any
	handed   any // the error that is handed on while it is closed
}

func (m *runModel) newCode(chunk impl.Chunk, n int, cells []*runCell) *runFunction {
	f := &runFunction{number: m.number("function"), code: &runCode{chunk, chunk.Protos[n]}, cells: cells}
	m.heap.enter(f)
	return f
}

var preludeChunk = sync.OnceValue(func() impl.Chunk {
	chunk, _ := impl.Compile(impl.Prelude())
	return chunk
})

// chunkOf is the chunk of a text, that of the prelude made once.
func chunkOf(source string) impl.Chunk {
	if source == impl.Prelude() {
		return preludeChunk()
	}
	chunk, _ := impl.Compile(source)
	return chunk
}

func (m *runModel) chunkFunction(chunk impl.Chunk) *runFunction {
	return m.newCode(chunk, len(chunk.Protos)-1, nil)
}

// modelExec is Exec and Trace of a safe chunk, and the stops of Debug at some lines, with limits that are right.
func modelExec(chunk impl.Chunk, limits impl.Limits, lines ...int) (impl.Outcome, []impl.Event, []impl.Stop) {
	h := newRunHeap()
	m := newRunModel(limits, h)
	h.begin(m)
	stops := m.looksAt(lines)
	told := m.tells(m.chunkFunction(chunk))
	told.Live, told.Bytes = h.live(), h.bytes()
	return told, h.events[:min(len(h.events), impl.MaxEvents)], *stops
}

func (th *runThread) carryOut(f *runFunction, args []any, kind int) *wayOut {
	p := f.code.proto
	c := &runCall{thread: th, closure: f}
	c.regs = make([]any, p.Regs)
	for i := 0; i < p.Params && i < len(args); i++ {
		c.regs[i] = args[i]
	}
	if p.Dots && len(args) > p.Params {
		c.dots = args[p.Params:]
	}
	th.calls = append(th.calls, c)
	th.model.heap.tell(th, kind, p.Line)
	at := 0
	var out *wayOut
	for out == nil {
		i := p.Code[at]
		c.line = p.Lines[at]
		at++
		out = c.instruction(i, &at)
	}
	th.calls = th.calls[:len(th.calls)-1]
	return out
}

// ends has the call end by a way out: everything is closed, and then it is told.
func (c *runCall) ends(out *wayOut) *wayOut {
	if out.kind == outByEnd || out.kind == outByDrop {
		return out
	}
	out = c.shut(0, out)
	switch {
	case out.kind == outByEnd || out.kind == outByDrop:
	case out.kind != outByReturn:
		c.thread.model.heap.tell(c.thread, impl.EventLeft, c.line)
	case out.tail == nil:
		c.thread.model.heap.tell(c.thread, impl.EventReturn, c.line)
	}
	return out
}

// shut closes registers and cells from a register on. If that fails, all is closed, by what it has failed with.
func (c *runCall) shut(from int, out *wayOut) *wayOut {
	c.shutting = true
	for {
		c.waiting, c.handed = nil, nil
		if out != nil && out.tail != nil {
			c.waiting = []any{out.tail}
		}
		if out != nil {
			c.waiting = append(c.waiting, out.values...)
			c.handed = out.err
		}
		last := len(c.notes) - 1
		for last >= 0 && c.notes[last] < from {
			last--
		}
		if last < 0 {
			break
		}
		v := c.regs[c.notes[last]]
		c.notes = slices.Delete(c.notes, last, last+1)
		if !runHolds(v) {
			continue
		}
		_, other := c.thread.call(runEntry(v, "__close"), []any{v, c.handed})
		if other == nil {
			continue
		}
		if other.kind == outByEnd || other.kind == outByDrop {
			return other
		}
		if other.kind == outByError && out != nil && out.kind == outByClose {
			other = &wayOut{kind: outByClose, failed: true, err: other.err}
		}
		from, out = 0, other
	}
	var left []*runCell
	for _, cell := range c.cells {
		if cell.register < from {
			left = append(left, cell)
			continue
		}
		v := c.regs[cell.register]
		cell.call = nil
		c.thread.model.heap.setCell(cell, v)
	}
	c.cells, c.shutting, c.waiting, c.handed = left, false, nil, nil
	return out
}

// taken are values from a register on, as many as told less one; 0 stands for all up to the end of what is open.
func (c *runCall) taken(from, told int) []any {
	if told > 0 {
		return slices.Clone(c.regs[from : from+told-1])
	}
	values := append(slices.Clone(c.regs[from:c.openAt]), c.spread...)
	c.spread = nil
	return values
}

func (c *runCall) left(from, told int, values []any) {
	if told == 0 {
		c.spread, c.openAt = slices.Clone(values), from
		return
	}
	for i := range told - 1 {
		c.regs[from+i] = nil
		if i < len(values) {
			c.regs[from+i] = values[i]
		}
	}
}

func (c *runCall) constant(n int) any {
	k := c.closure.code.proto.Consts[n]
	switch k.Kind {
	case impl.NodeInt:
		return k.Int
	case impl.NodeString:
		return k.Text
	}
	return runOfLit(impl.Lit{Kind: impl.LitFloat, Bits: k.Bits})
}

// instruction carries one out; a way out of it is one out of the call.
func (c *runCall) instruction(i impl.Instr, next *int) *wayOut {
	var out *wayOut
	switch {
	case i.Op <= impl.InsConst || i.Op == impl.InsNot || i.Op == impl.InsTable || i.Op == impl.InsDots:
		out = c.plainInstruction(i)
	case i.Op <= impl.InsSetList:
		out = c.tableInstruction(i)
	case i.Op <= impl.InsLen || i.Op > impl.InsArith:
		out = c.operationInstruction(i)
	case i.Op <= impl.InsJumpNot || i.Op == impl.InsEachLoop || i.Op == impl.InsForPrep || i.Op == impl.InsForLoop:
		out = c.jumpInstruction(i, next)
	default:
		return c.callInstruction(i)
	}
	if out != nil {
		return c.ends(out)
	}
	return nil
}

func (c *runCall) plainInstruction(i impl.Instr) *wayOut {
	m := c.thread.model
	switch i.Op {
	case impl.InsTick:
		if out := m.step(); out != nil {
			return out
		}
		m.heap.tell(c.thread, impl.EventStep, c.line)
		if m.looks != nil {
			m.looks(c)
		}
		return c.thread.collectorsTurn()
	case impl.InsMove:
		c.regs[i.A] = c.regs[i.B]
	case impl.InsNil:
		c.left(i.A, i.B+1, nil)
	case impl.InsBool:
		c.regs[i.A] = i.B == 1
	case impl.InsInt:
		c.regs[i.A] = i.B
	case impl.InsConst:
		c.regs[i.A] = c.constant(i.B)
	case impl.InsNot:
		c.regs[i.A] = !runHolds(c.regs[i.B])
	case impl.InsTable:
		c.regs[i.A] = m.newTable()
	case impl.InsDots:
		c.left(i.A, i.B, c.dots)
	}
	return nil
}

// raw sets something in a register's table.
func (c *runCall) raw(register int, k, v any) *wayOut {
	t, isTable := c.regs[register].(*runTable)
	if !isTable {
		return c.thread.fails("attempt to index a " + runType(c.regs[register]) + " value")
	}
	t.set(k, v)
	return nil
}

func (c *runCall) tableInstruction(i impl.Instr) *wayOut {
	th := c.thread
	got, out := any(nil), (*wayOut)(nil)
	switch i.Op {
	case impl.InsGetUp:
		got = c.closure.cells[i.B].get()
	case impl.InsSetUp:
		th.model.heap.setCell(c.closure.cells[i.B], c.regs[i.A])
		return nil
	case impl.InsGetGlobal:
		got = th.model.globals.get(c.constant(i.B))
	case impl.InsSetGlobal:
		th.model.globals.set(c.constant(i.B), c.regs[i.A])
		return nil
	case impl.InsSetIndex:
		return th.setIndex(c.regs[i.A], c.regs[i.B], c.regs[i.C])
	case impl.InsSetField:
		return c.raw(i.A, c.constant(i.B), c.regs[i.C])
	case impl.InsSetItem:
		return c.raw(i.A, i.B, c.regs[i.C])
	case impl.InsSetList:
		values := c.taken(i.A+1, 0)
		if len(values) == 0 {
			return c.raw(i.A, "none", nil)
		}
		for n, v := range values {
			if out := c.raw(i.A, i.B+n, v); out != nil {
				return out
			}
		}
		return nil
	case impl.InsGetIndex:
		got, out = th.index(c.regs[i.B], c.regs[i.C])
	case impl.InsGetField:
		got, out = th.index(c.regs[i.B], c.constant(i.C))
	case impl.InsSelf:
		object := c.regs[i.B]
		c.regs[i.A+1] = object
		got, out = th.index(object, c.constant(i.C))
	}
	if out == nil {
		c.regs[i.A] = got
	}
	return out
}

func (c *runCall) operationInstruction(i impl.Instr) *wayOut {
	th := c.thread
	a := c.regs[i.B]
	got, out := any(nil), (*wayOut)(nil)
	switch {
	case i.Op == impl.InsConcat:
		got, out = th.concat(a, c.regs[i.C])
	case i.Op == impl.InsEq:
		got, out = th.equal(a, c.regs[i.C])
	case i.Op == impl.InsLt || i.Op == impl.InsLe:
		got, out = th.less(a, c.regs[i.C], i.Op == impl.InsLe)
	case i.Op == impl.InsLen:
		got, out = th.length(a)
	case i.Op >= impl.InsArith+impl.NumNeg:
		got, out = th.arith(i.Op-impl.InsArith, a, a)
	default:
		got, out = th.arith(i.Op-impl.InsArith, a, c.regs[i.C])
	}
	if out == nil {
		c.regs[i.A] = got
	}
	return out
}

func (c *runCall) jumpInstruction(i impl.Instr, next *int) *wayOut {
	switch i.Op {
	case impl.InsJump:
		*next = i.B
	case impl.InsJumpIf, impl.InsJumpNot:
		if runHolds(c.regs[i.A]) == (i.Op == impl.InsJumpIf) {
			*next = i.B
		}
	case impl.InsEachLoop:
		if c.regs[i.A+3] != nil {
			c.regs[i.A+2] = c.regs[i.A+3]
			*next = i.B
		}
	case impl.InsForPrep:
		return c.beginToCount(i, next)
	case impl.InsForLoop:
		return c.countFurther(i, next)
	}
	return nil
}

func runArith(op int, a, b any) any {
	text, _ := impl.Arith(op, runNumberText(a), runNumberText(b))
	return runNumber(text)
}

func runCompare(a, b any) int {
	order, _ := impl.Compare(runNumberText(a), runNumberText(b))
	return order
}

func (c *runCall) beginToCount(i impl.Instr, next *int) *wayOut {
	for n, what := range []string{"start", "limit", "step"} {
		if !isRunNumber(c.regs[i.A+n]) {
			return c.thread.fails("'for' " + what + " must be a number")
		}
	}
	start, limit, step := c.regs[i.A], c.regs[i.A+1], c.regs[i.A+2]
	if runCompare(step, 0) == 0 {
		return c.thread.fails("'for' step is zero")
	}
	_, startIsInt := start.(int)
	_, stepIsInt := step.(int)
	areInts := startIsInt && stepIsInt
	if !areInts {
		start, limit, step = runNumber(runAsFloat(start)), runNumber(runAsFloat(limit)), runNumber(runAsFloat(step))
	}
	order := runCompare(start, limit)
	up := runCompare(step, 0) == 1
	if order == 2 || up && order == 1 || !up && order == -1 {
		*next = i.B
		return nil
	}
	if areInts {
		limit = int(turnsLeft(start.(int), limit, step.(int)))
	}
	c.regs[i.A], c.regs[i.A+1], c.regs[i.A+2], c.regs[i.A+3] = start, limit, step, start
	return nil
}

// turnsLeft finds by halving the greatest number of further turns with which the variable isn't beyond the limit.
func turnsLeft(start int, limit any, step int) uint64 {
	span := ^uint64(0) >> 1
	size := uint64(step)
	room := span - uint64(start) // up to the greatest integer
	if step < 0 {
		size = -size
		room = uint64(start) + span + 1 // down to the least
	}
	least, most := uint64(0), room/size
	for least < most {
		middle := most - (most-least)/2
		order := runCompare(start+int(middle)*step, limit)
		if step > 0 && order == 1 || step < 0 && order == -1 {
			most = middle - 1
		} else {
			least = middle
		}
	}
	return least
}

func (c *runCall) countFurther(i impl.Instr, next *int) *wayOut {
	three := c.regs[i.A : i.A+3]
	ints, numbers := 0, 0
	for _, v := range three {
		if _, isInt := v.(int); isInt {
			ints++
		}
		if isRunNumber(v) {
			numbers++
		}
	}
	switch {
	case ints == 3 && three[1] == 0:
		return nil
	case ints == 3:
		three[1] = three[1].(int) - 1
		three[0] = three[0].(int) + three[2].(int)
	case numbers == 3:
		sum := runArith(impl.NumAdd, runNumber(runAsFloat(three[0])), runNumber(runAsFloat(three[2])))
		order := runCompare(sum, three[1])
		if order == 2 || order == 1 && runCompare(three[2], 0) == 1 || order == -1 && runCompare(three[2], 0) != 1 {
			return nil
		}
		three[0] = sum
	default:
		return c.thread.fails("'for' loop over what are no numbers")
	}
	c.regs[i.A+3] = three[0]
	*next = i.B
	return nil
}

// callInstruction is one that calls, returns, or has to do with cells and closing.
func (c *runCall) callInstruction(i impl.Instr) *wayOut {
	th := c.thread
	var values []any
	var out *wayOut
	switch i.Op {
	case impl.InsCall:
		if values, out = th.call(c.regs[i.A], c.taken(i.A+1, i.B)); out == nil {
			c.left(i.A, i.C, values)
			return nil
		}
	case impl.InsEach:
		if values, out = th.call(c.regs[i.A], []any{c.regs[i.A+1], c.regs[i.A+2]}); out == nil {
			c.left(i.A+3, i.B+1, values)
			return nil
		}
	case impl.InsReturn:
		out = &wayOut{kind: outByReturn, values: c.taken(i.A, i.B)}
	case impl.InsTail:
		out = c.tail(i)
	case impl.InsClosure:
		c.closureOf(i)
		return nil
	case impl.InsTbc:
		v := c.regs[i.A]
		if !runHolds(v) {
			return nil
		}
		if runEntry(v, "__close") != nil {
			c.notes = append(c.notes, i.A)
			return nil
		}
		out = th.fails("variable got a " + runType(v) + " value that cannot be closed")
	case impl.InsClose:
		if out = c.shut(i.A, nil); out == nil {
			return nil
		}
	}
	return c.ends(out)
}

func (c *runCall) tail(i impl.Instr) *wayOut {
	f, args, out := c.thread.callee(c.regs[i.A], c.taken(i.A+1, i.B))
	if out != nil {
		return out
	}
	if closure, ok := f.(*runFunction); ok {
		return &wayOut{kind: outByReturn, values: args, tail: closure}
	}
	values, out := c.thread.call(f, args)
	if out != nil {
		return out
	}
	return &wayOut{kind: outByReturn, values: values}
}

func (c *runCall) closureOf(i impl.Instr) {
	m, code := c.thread.model, c.closure.code
	var cells []*runCell
	for _, up := range code.chunk.Protos[i.B].Ups {
		if !up.FromLocal {
			cells = append(cells, c.closure.cells[up.Index])
			continue
		}
		at := slices.IndexFunc(c.cells, func(cell *runCell) bool { return cell.register == up.Index })
		if at < 0 {
			at = len(c.cells)
			cell := &runCell{call: c, register: up.Index}
			m.heap.enter(cell)
			c.cells = append(c.cells, cell)
		}
		cells = append(cells, c.cells[at])
	}
	c.regs[i.A] = m.newCode(code.chunk, i.B, cells)
}

func (cell *runCell) get() any {
	if cell.call != nil {
		return cell.call.regs[cell.register]
	}
	return cell.value
}
