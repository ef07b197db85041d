package tests

import (
	"fmt"
	"testing"

	"loop.example/g00002/impl"
)

// The model makes the code of chapter 7 in two goes: first a list in which jumps name their places, of which the numbers
// are made then. What is seen is handed on from statement to statement, and registers are counted from the instructions.

// modelVariable is a variable that is seen.
type modelVariable struct {
	register      int
	shuts, closes bool
}

// modelStep is an instruction, or a place to which others go.
type modelStep struct {
	impl.Instr
	line     int
	to, here *int
}

// modelCode makes the functions of a text.
type modelCode struct {
	nodes  []impl.Node
	uses   map[int]impl.Use
	funcs  []impl.Func
	protos []impl.Proto
	faults []impl.Fault
}

// modelBody makes one function.
type modelBody struct {
	*modelCode
	steps  []modelStep
	consts []impl.Const
	line   int
	top    int // the highest register declared
}

// modelFrame is a block whose statements are being made.
type modelFrame struct {
	around *modelFrame
	kids   []int
	seen   []int // how many variables are seen ahead of each statement
	now    int
	labels map[string]*int
	out    *int // where breaks go, if it is the block of a loop
	before int  // how many variables are seen ahead of that loop
}

// newModelCode takes the folded tree of a text without a fault of chapter 5, and hands its names what they stand for.
func newModelCode(source string) *modelCode {
	tree, _ := impl.Fold(source)
	scoped, _ := impl.Scope(source)
	m := &modelCode{nodes: tree.Nodes, uses: map[int]impl.Use{}, funcs: scoped.Funcs}
	next := 0
	for i, n := range tree.Nodes {
		if n.Kind == impl.NodeName || n.Kind == impl.NodeDecl {
			m.uses[i] = scoped.Uses[next]
			next++
		}
	}
	return m
}

// modelCompile is the chunk of a text, or its fault.
func modelCompile(source string) (impl.Chunk, impl.Fault) {
	if _, fault := impl.Scope(source); fault.Code != 0 {
		return impl.Chunk{}, fault
	}
	m := newModelCode(source)
	root := len(m.nodes) - 1
	m.function(root)
	if len(m.protos) > impl.MaxProtos {
		m.fail(impl.FaultProtos, root)
	}
	if len(m.faults) > 0 {
		v := modelVerdict{faults: m.faults}
		return impl.Chunk{}, v.first()
	}
	return impl.Chunk{Protos: m.protos}, impl.Fault{}
}

func (m *modelCode) fail(code, n int) {
	m.faults = append(m.faults, impl.Fault{Code: code, Line: m.nodes[n].Line, At: m.nodes[n].At})
}

// function makes a function and gives its place.
func (m *modelCode) function(n int) int {
	node := m.nodes[n]
	b := &modelBody{modelCode: m, top: -1}
	var env []modelVariable
	for _, parameter := range node.Kids[:node.Int] {
		env = b.declare(env, parameter)
	}
	b.statements(node.Kids[node.Int], env, &modelFrame{})
	b.at(n)
	b.put(impl.InsReturn, 0, 1, 0)
	told := m.funcs[len(m.protos)]
	p := impl.Proto{Params: told.Params, Dots: told.Dots, Ups: told.Ups, Line: node.Line, Consts: b.consts, Regs: b.top + 1}
	b.number(&p)
	m.protos = append(m.protos, p)
	if p.Regs > impl.MaxRegs {
		m.fail(impl.FaultRegs, n)
	}
	if len(p.Consts) > impl.MaxConsts {
		m.fail(impl.FaultConsts, n)
	}
	if len(p.Code) > impl.MaxCode {
		m.fail(impl.FaultCode, n)
	}
	return len(m.protos) - 1
}

// number turns places into numbers, and counts the registers.
func (b *modelBody) number(p *impl.Proto) {
	count := 0
	for _, step := range b.steps {
		if step.here != nil {
			*step.here = count
			continue
		}
		count++
	}
	for _, step := range b.steps {
		if step.here != nil {
			continue
		}
		if step.to != nil {
			step.B = *step.to
		}
		p.Code = append(p.Code, step.Instr)
		p.Lines = append(p.Lines, step.line)
		p.Regs = max(p.Regs, highestUsed(step.Instr)+1)
	}
}

// highestUsed is the highest register that an instruction makes its function have, or -1.
func highestUsed(i impl.Instr) int {
	switch i.Op {
	case impl.InsNil:
		return i.A + i.B - 1
	case impl.InsSelf:
		return i.A + 1
	case impl.InsCall:
		if i.C < 2 {
			return -1
		}
		return i.A + i.C - 2
	case impl.InsDots:
		return i.A + max(i.B-2, 0)
	case impl.InsForPrep, impl.InsForLoop:
		return i.A + 3
	case impl.InsEach:
		return i.A + max(5, 2+i.B)
	case impl.InsTick, impl.InsSetUp, impl.InsSetGlobal, impl.InsSetIndex, impl.InsSetField, impl.InsSetItem, impl.InsSetList,
		impl.InsJump, impl.InsJumpIf, impl.InsJumpNot, impl.InsTail, impl.InsClose, impl.InsTbc, impl.InsEachLoop:
		return -1
	}
	return i.A
}

func (b *modelBody) at(n int) { b.line = b.nodes[n].Line }

func (b *modelBody) put(op, x, y, z int) {
	b.steps = append(b.steps, modelStep{Instr: impl.Instr{Op: op, A: x, B: y, C: z}, line: b.line})
}

func (b *modelBody) putAt(n, op, x, y, z int) {
	b.at(n)
	b.put(op, x, y, z)
}

func (b *modelBody) goTo(op, r int, to *int) {
	b.steps = append(b.steps, modelStep{Instr: impl.Instr{Op: op, A: r}, line: b.line, to: to})
}

func (b *modelBody) here(place *int) { b.steps = append(b.steps, modelStep{here: place}) }

func (b *modelBody) k(c impl.Const) int {
	for i, other := range b.consts {
		if other == c {
			return i
		}
	}
	b.consts = append(b.consts, c)
	return len(b.consts) - 1
}

func (b *modelBody) kText(text string) int {
	return b.k(impl.Const{Kind: impl.NodeString, Text: text})
}

func (b *modelBody) declare(env []modelVariable, n int) []modelVariable {
	use, closes := b.uses[n], b.nodes[n].Int == 2
	b.top = max(b.top, use.Index)
	return append(env[:len(env):len(env)], modelVariable{register: use.Index, shuts: use.Captured || closes, closes: closes})
}

func freeBehind(env []modelVariable) int {
	if len(env) == 0 {
		return 0
	}
	return env[len(env)-1].register + 1
}

func needsShut(env []modelVariable, first int) bool {
	for _, v := range env[first:] {
		if v.shuts {
			return true
		}
	}
	return false
}

func (b *modelBody) shut(env []modelVariable, first int) {
	for _, v := range env[first:] {
		if v.shuts {
			b.put(impl.InsClose, v.register, 0, 0)
			return
		}
	}
}

func (b *modelBody) isOpen(e int) bool {
	switch b.nodes[e].Kind {
	case impl.NodeCall, impl.NodeMethod, impl.NodeDots:
		return true
	}
	return false
}

// x is X of the chapter.
func (b *modelBody) x(e, r int) {
	n := b.nodes[e]
	b.at(e)
	switch n.Kind {
	case impl.NodeNil:
		b.put(impl.InsNil, r, 1, 0)
	case impl.NodeFalse:
		b.put(impl.InsBool, r, 0, 0)
	case impl.NodeTrue:
		b.put(impl.InsBool, r, 1, 0)
	case impl.NodeInt:
		if n.Int == int(int16(n.Int)) {
			b.put(impl.InsInt, r, n.Int, 0)
		} else {
			b.put(impl.InsConst, r, b.k(impl.Const{Kind: impl.NodeInt, Int: n.Int}), 0)
		}
	case impl.NodeFloat:
		b.put(impl.InsConst, r, b.k(impl.Const{Kind: impl.NodeFloat, Bits: n.Bits}), 0)
	case impl.NodeString:
		b.put(impl.InsConst, r, b.kText(n.Text), 0)
	case impl.NodeDots:
		b.put(impl.InsDots, r, 2, 0)
	case impl.NodeParen:
		b.x(n.Kids[0], r)
	case impl.NodeName:
		switch use := b.uses[e]; use.Where {
		case impl.UseLocal:
			b.put(impl.InsMove, r, use.Index, 0)
		case impl.UseUp:
			b.put(impl.InsGetUp, r, use.Index, 0)
		case impl.UseGlobal:
			b.put(impl.InsGetGlobal, r, b.kText(n.Text), 0)
		}
	case impl.NodeIndex:
		b.x(n.Kids[0], r)
		if key := b.nodes[n.Kids[1]]; key.Kind == impl.NodeString {
			b.putAt(e, impl.InsGetField, r, r, b.kText(key.Text))
		} else {
			b.x(n.Kids[1], r+1)
			b.putAt(e, impl.InsGetIndex, r, r, r+1)
		}
	case impl.NodeCall, impl.NodeMethod:
		b.call(e, r, 2)
	case impl.NodeTable:
		b.table(n, r)
	case impl.NodeAnd, impl.NodeOr:
		op := map[int]int{impl.NodeAnd: impl.InsJumpNot, impl.NodeOr: impl.InsJumpIf}[n.Kind]
		b.x(n.Kids[0], r)
		b.at(e)
		behind := new(int)
		b.goTo(op, r, behind)
		b.x(n.Kids[1], r)
		b.here(behind)
	case impl.NodeUnary, impl.NodeBinary:
		b.operation(e, r)
	case impl.NodeFunction:
		p := b.function(e)
		b.putAt(e, impl.InsClosure, r, p, 0)
	}
}

func (b *modelBody) operation(e, r int) {
	n := b.nodes[e]
	for i, kid := range n.Kids {
		b.x(kid, r+i)
	}
	i := impl.Instr{Op: impl.InsArith + n.Int, A: r, B: r}
	if len(n.Kids) == 2 {
		i.C = r + 1
	}
	switch n.Int {
	case impl.OpConcat:
		i.Op = impl.InsConcat
	case impl.OpEq, impl.OpNe:
		i.Op = impl.InsEq
	case impl.OpLt, impl.OpGt:
		i.Op = impl.InsLt
	case impl.OpLe, impl.OpGe:
		i.Op = impl.InsLe
	case impl.OpNot:
		i.Op = impl.InsNot
	case impl.OpLen:
		i.Op = impl.InsLen
	}
	if n.Int == impl.OpGt || n.Int == impl.OpGe {
		i.B, i.C = i.C, i.B
	}
	b.putAt(e, i.Op, i.A, i.B, i.C)
	if n.Int == impl.OpNe {
		b.put(impl.InsNot, r, r, 0)
	}
}

func (b *modelBody) call(e, r, w int) { b.callBy(impl.InsCall, e, r, w) }

func (b *modelBody) callBy(op, e, r, w int) {
	n := b.nodes[e]
	b.x(n.Kids[0], r)
	var count int
	if n.Kind == impl.NodeMethod {
		b.putAt(e, impl.InsSelf, r, r, b.kText(n.Text))
		count = b.args(n.Kids[1:], r+2)
		if count > 0 {
			count++
		}
	} else {
		count = b.args(n.Kids[1:], r+1)
	}
	b.putAt(e, op, r, count, w)
}

func (b *modelBody) args(list []int, r int) int {
	last := len(list) - 1
	if last >= 0 && b.isOpen(list[last]) {
		b.each(list[:last], r)
		b.open(list[last], r+last, 0)
		return 0
	}
	b.each(list, r)
	return len(list) + 1
}

func (b *modelBody) each(list []int, r int) {
	for i, e := range list {
		b.x(e, r+i)
	}
}

func (b *modelBody) open(e, r, w int) {
	if b.nodes[e].Kind == impl.NodeDots {
		b.putAt(e, impl.InsDots, r, w, 0)
		return
	}
	b.call(e, r, w)
}

func (b *modelBody) table(n impl.Node, r int) {
	b.put(impl.InsTable, r, 0, 0)
	number := 0
	for i, field := range n.Kids {
		kids := b.nodes[field].Kids
		if b.nodes[field].Kind == impl.NodeItem {
			number++
			if i == len(n.Kids)-1 && b.isOpen(kids[0]) {
				b.open(kids[0], r+1, 0)
				b.putAt(field, impl.InsSetList, r, number, 0)
				continue
			}
			b.x(kids[0], r+1)
			b.putAt(field, impl.InsSetItem, r, number, r+1)
			continue
		}
		if key := b.nodes[kids[0]]; key.Kind == impl.NodeString {
			b.x(kids[1], r+1)
			b.putAt(field, impl.InsSetField, r, b.kText(key.Text), r+1)
			continue
		}
		b.each(kids, r+1)
		b.putAt(field, impl.InsSetIndex, r, r+1, r+2)
	}
}

func (b *modelBody) list(es []int, r, n, k int) {
	m := len(es)
	if m > 0 && m <= n && b.isOpen(es[m-1]) {
		b.each(es[:m-1], r)
		b.open(es[m-1], r+m-1, n-m+2)
		return
	}
	b.each(es, r)
	if m < n {
		b.putAt(k, impl.InsNil, r+m, n-m, 0)
	}
}

// statements makes what stands in a block, and gives what is seen at its end.
func (b *modelBody) statements(block int, env []modelVariable, f *modelFrame) []modelVariable {
	f.kids, f.labels = b.nodes[block].Kids, map[string]*int{}
	count := len(env)
	for _, kid := range f.kids {
		f.seen = append(f.seen, count)
		switch n := b.nodes[kid]; n.Kind {
		case impl.NodeLocal:
			count += n.Int
		case impl.NodeLocalFunc:
			count++
		case impl.NodeLabel:
			f.labels[n.Text] = new(int)
		}
	}
	for i, kid := range f.kids {
		f.now = i
		env = b.statement(kid, env, f)
	}
	return env
}

func (b *modelBody) block(n int, env []modelVariable, f *modelFrame) {
	behind := b.statements(n, env, f)
	b.at(n)
	b.shut(behind, len(env))
}

// loopFrame is the frame of a loop's block.
func loopFrame(around *modelFrame, env []modelVariable) *modelFrame {
	return &modelFrame{around: around, out: new(int), before: len(env)}
}

func (b *modelBody) statement(s int, env []modelVariable, f *modelFrame) []modelVariable {
	n, r := b.nodes[s], freeBehind(env)
	if n.Kind == impl.NodeLabel {
		b.here(f.labels[n.Text])
		return env
	}
	again := new(int)
	b.here(again)
	b.putAt(s, impl.InsTick, 0, 0, 0)
	switch n.Kind {
	case impl.NodeAssign:
		b.assign(s, r)
	case impl.NodeRun:
		b.call(n.Kids[0], r, 1)
	case impl.NodeDo:
		b.block(n.Kids[0], env, &modelFrame{around: f})
	case impl.NodeWhile:
		inner := loopFrame(f, env)
		b.x(n.Kids[0], r)
		b.at(s)
		b.goTo(impl.InsJumpNot, r, inner.out)
		b.block(n.Kids[1], env, inner)
		b.at(s)
		b.goTo(impl.InsJump, 0, again)
		b.here(inner.out)
	case impl.NodeRepeat:
		b.repeat(s, env, f, again)
	case impl.NodeIf:
		b.choice(s, env, f)
	case impl.NodeFor:
		b.counting(s, env, f)
	case impl.NodeIn:
		b.listing(s, env, f)
	case impl.NodeLocal:
		b.list(n.Kids[n.Int:], r, n.Int, s)
		for _, d := range n.Kids[:n.Int] {
			env = b.declare(env, d)
			if b.nodes[d].Int == 2 {
				b.putAt(d, impl.InsTbc, b.uses[d].Index, 0, 0)
			}
		}
	case impl.NodeLocalFunc:
		env = b.declare(env, n.Kids[0])
		b.x(n.Kids[1], r)
	case impl.NodeReturn:
		b.giveBack(s, env)
	case impl.NodeBreak:
		for f.out == nil {
			f = f.around
		}
		b.shut(env, f.before)
		b.goTo(impl.InsJump, 0, f.out)
	case impl.NodeGoto:
		b.jump(n.Text, env, f)
	}
	return env
}

func (b *modelBody) assign(s, r int) {
	n := b.nodes[s]
	targets := n.Kids[:n.Int]
	tables := map[int]int{}
	for _, target := range targets {
		if b.nodes[target].Kind == impl.NodeIndex {
			tables[target] = r
			b.each(b.nodes[target].Kids, r)
			r += 2
		}
	}
	b.list(n.Kids[n.Int:], r, n.Int, s)
	for i, target := range targets {
		b.at(target)
		value, use := r+i, b.uses[target]
		if table, ok := tables[target]; ok {
			b.put(impl.InsSetIndex, table, table+1, value)
			continue
		}
		switch use.Where {
		case impl.UseLocal:
			b.put(impl.InsMove, use.Index, value, 0)
		case impl.UseUp:
			b.put(impl.InsSetUp, value, use.Index, 0)
		case impl.UseGlobal:
			b.put(impl.InsSetGlobal, value, b.kText(b.nodes[target].Text), 0)
		}
	}
}

func (b *modelBody) repeat(s int, env []modelVariable, f *modelFrame, again *int) {
	n := b.nodes[s]
	inner := loopFrame(f, env)
	behind := b.statements(n.Kids[0], env, inner)
	r := freeBehind(behind)
	b.x(n.Kids[1], r)
	b.at(s)
	if needsShut(behind, len(env)) {
		y := new(int)
		b.goTo(impl.InsJumpIf, r, y)
		b.shut(behind, len(env))
		b.goTo(impl.InsJump, 0, again)
		b.here(y)
		b.shut(behind, len(env))
	} else {
		b.goTo(impl.InsJumpNot, r, again)
	}
	b.here(inner.out)
}

func (b *modelBody) choice(s int, env []modelVariable, f *modelFrame) {
	kids, r, end := b.nodes[s].Kids, freeBehind(env), new(int)
	for i := 0; i+1 < len(kids); i += 2 {
		next := new(int)
		b.x(kids[i], r)
		b.at(s)
		b.goTo(impl.InsJumpNot, r, next)
		b.block(kids[i+1], env, &modelFrame{around: f})
		if i+2 < len(kids) {
			b.at(s)
			b.goTo(impl.InsJump, 0, end)
		}
		b.here(next)
	}
	if len(kids)%2 == 1 {
		b.block(kids[len(kids)-1], env, &modelFrame{around: f})
	}
	b.here(end)
}

func (b *modelBody) counting(s int, env []modelVariable, f *modelFrame) {
	kids, r, begin := b.nodes[s].Kids, freeBehind(env), new(int)
	inner := loopFrame(f, env)
	b.x(kids[1], r)
	b.x(kids[2], r+1)
	if len(kids) == 5 {
		b.x(kids[3], r+2)
	} else {
		b.putAt(s, impl.InsInt, r+2, 1, 0)
	}
	b.at(s)
	b.goTo(impl.InsForPrep, r, inner.out)
	own := b.declare(env, kids[0])
	b.here(begin)
	b.put(impl.InsTick, 0, 0, 0)
	b.block(kids[len(kids)-1], own, inner)
	b.at(s)
	b.shut(own, len(env))
	b.goTo(impl.InsForLoop, r, begin)
	b.here(inner.out)
}

func (b *modelBody) listing(s int, env []modelVariable, f *modelFrame) {
	n, r := b.nodes[s], freeBehind(env)
	begin, turn := new(int), new(int)
	inner := loopFrame(f, env)
	b.list(n.Kids[n.Int:len(n.Kids)-1], r, 3, s)
	b.at(s)
	b.goTo(impl.InsJump, 0, turn)
	own := env
	for _, d := range n.Kids[:n.Int] {
		own = b.declare(own, d)
	}
	b.here(begin)
	b.put(impl.InsTick, 0, 0, 0)
	b.block(n.Kids[len(n.Kids)-1], own, inner)
	b.at(s)
	b.shut(own, len(env))
	b.here(turn)
	b.put(impl.InsEach, r, n.Int, 0)
	b.goTo(impl.InsEachLoop, r, begin)
	b.here(inner.out)
}

func (b *modelBody) giveBack(s int, env []modelVariable) {
	kids, r := b.nodes[s].Kids, freeBehind(env)
	closes := false
	for _, v := range env {
		closes = closes || v.closes
	}
	if len(kids) == 1 && b.isOpen(kids[0]) && b.nodes[kids[0]].Kind != impl.NodeDots && !closes {
		b.callBy(impl.InsTail, kids[0], r, 0)
		return
	}
	count := b.args(kids, r)
	b.putAt(s, impl.InsReturn, r, count, 0)
}

func (b *modelBody) jump(name string, env []modelVariable, f *modelFrame) {
	for f.labels[name] == nil {
		f = f.around
	}
	at := 0
	for n := b.nodes[f.kids[at]]; n.Kind != impl.NodeLabel || n.Text != name; n = b.nodes[f.kids[at]] {
		at++
	}
	b.shut(env, f.seen[min(at, f.now)])
	b.goTo(impl.InsJump, 0, f.labels[name])
}

// checkCodeByModel holds the code of a text against the model, and tells the code of its fault.
func checkCodeByModel(t *testing.T, source string) int {
	t.Helper()
	want, fault := modelCompile(source)
	got, told := impl.Compile(source)
	if told != fault || fmt.Sprintf("%+v", got) != fmt.Sprintf("%+v", want) {
		t.Errorf("Compile(%.2000q) is %+v,\n%s\nwant %+v,\n%s", source, told, codeText(got), fault, codeText(want))
	}
	if told.Code == 0 {
		checkShorter(t, source, got)
	}
	return fault.Code
}
