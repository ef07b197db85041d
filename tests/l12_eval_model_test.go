package tests

import (
	"strconv"
	"strings"

	"loop.example/g00002/impl"
)

// The model of chapter 13 goes over the flat list of chapter 4. Names are looked up as they are met, in a list of the
// variables that are seen; whatever ends a statement early goes back as a way out, so that nothing panics. Its values are
// those of Go: nil, bool, int, float64, string, and pointers to the objects below; a primitive is its name as a runPrimitive.

type runPrimitive string

// runTable has its keys and values in two lists; at tells where a key is.
type runTable struct {
	keys, values []any
	at           map[any]int
	meta         *runTable
	number       int
	heap         *runHeap // none below the evaluator
	mode         int
}

// runFunction is a function of a tree, or one of a chunk with its cells.
type runFunction struct {
	nodes  []impl.Node
	node   int
	seen   *runScope
	number int
	code   *runCode
	cells  []*runCell
}

// runScope is a variable and, behind it, those that were seen where it was declared.
type runScope struct {
	outer  *runScope
	name   string
	value  any
	at     int // the place of the declaration
	attrib int
	closes bool // it is still to be closed
}

type runCall struct {
	thread  *runThread
	closure *runFunction // none of a pcall
	line    int
	dots    []any
	final   bool // it is of a finalizer
	machineCall
}

// wayOut is how something ends early.
type wayOut struct {
	kind   int
	label  string
	values []any        // of a return; the arguments if a closure is called in its place
	tail   *runFunction // that closure
	err    any
	failed bool // of a thread that is closed: something has failed in closing, by err
	code   int
}

const (
	outByBreak = iota + 1
	outByGoto
	outByReturn
	outByError
	outByClose
	outByEnd
	outByDrop
)

// runModel is a run.
type runModel struct {
	limits         impl.Limits
	ticks, made    int
	output         strings.Builder
	globals, texts *runTable
	numbers        map[string]int
	main           *runThread
	resumed        []*runThread // inside each other, the main one first
	begun          []*runThread
	heap           *runHeap         // none below the evaluator
	looks          func(c *runCall) // asked at each Tick, if there is one
}

func (m *runModel) number(kind string) int {
	m.numbers[kind]++
	return m.numbers[kind]
}

func (m *runModel) newTable() *runTable {
	t := &runTable{at: map[any]int{}, number: m.number("table"), heap: m.heap}
	m.heap.enter(t)
	return t
}

func (m *runModel) newFunction(nodes []impl.Node, node int, seen *runScope) *runFunction {
	return &runFunction{nodes: nodes, node: node, seen: seen, number: m.number("function")}
}

// runKey makes a whole float an integer.
func runKey(k any) any {
	if f, isFloat := k.(float64); isFloat {
		if text, code := impl.ToInteger(runNumberText(f)); code == 0 {
			i, _ := strconv.Atoi(text)
			return i
		}
	}
	return k
}

func (t *runTable) get(k any) any {
	if place, has := t.at[runKey(k)]; has {
		return t.values[place]
	}
	return nil
}

func (t *runTable) set(k, v any) {
	k = runKey(k)
	if place, has := t.at[k]; has {
		t.values[place] = v
		t.heap.touch(t, 0)
		return
	}
	if v == nil {
		return
	}
	empty := 0
	for _, old := range t.values {
		if old == nil {
			empty++
		}
	}
	if len(t.keys) >= 16 && 2*empty > len(t.keys) {
		t.shrink()
	}
	t.at[k] = len(t.keys)
	t.keys, t.values = append(t.keys, k), append(t.values, v)
	t.heap.touch(t, 40)
}

func (t *runTable) shrink() {
	keys, values := t.keys, t.values
	t.keys, t.values, t.at = nil, nil, map[any]int{}
	for i, k := range keys {
		if values[i] != nil {
			t.at[k] = len(t.keys)
			t.keys, t.values = append(t.keys, k), append(t.values, values[i])
		}
	}
}

func (t *runTable) length() int {
	n := 0
	for t.get(n+1) != nil {
		n++
	}
	return n
}

func runNumberText(v any) string {
	switch v := v.(type) {
	case int:
		return strconv.Itoa(v)
	case float64:
		return impl.FormatNumber(floatNumber(v))
	}
	return ""
}

func isRunNumber(v any) bool { return runNumberText(v) != "" }

func runType(v any) string {
	switch v.(type) {
	case nil:
		return "nil"
	case bool:
		return "boolean"
	case int, float64:
		return "number"
	case string:
		return "string"
	case *runTable:
		return "table"
	case *runThread:
		return "thread"
	}
	return "function"
}

func runShown(v any) string {
	switch v := v.(type) {
	case bool:
		return strconv.FormatBool(v)
	case int, float64:
		return runNumberText(v)
	case string:
		return v
	case runPrimitive:
		return "builtin: " + string(v)
	case *runTable:
		return "table: " + strconv.Itoa(v.number)
	case *runFunction:
		return "function: " + strconv.Itoa(v.number)
	case *runThread:
		return "thread: " + strconv.Itoa(v.number)
	}
	return "nil"
}

func runHolds(v any) bool { return v != nil && v != false }

func runSame(a, b any) bool {
	if isRunNumber(a) && isRunNumber(b) {
		order, _ := impl.Compare(runNumberText(a), runNumberText(b))
		return order == 0
	}
	return a == b
}

// runEntry is what the metatable of a value has.
func runEntry(v any, name string) any {
	if t, isTable := v.(*runTable); isTable && t.meta != nil {
		return t.meta.get(name)
	}
	return nil
}

func runFirst(values []any) any {
	if len(values) == 0 {
		return nil
	}
	return values[0]
}

func (m *runModel) step() *wayOut {
	if m.ticks == m.limits.Steps {
		return &wayOut{kind: outByEnd, code: impl.OutBudget}
	}
	m.ticks++
	return nil
}

func (m *runModel) count(bytes int) *wayOut {
	m.made += bytes
	if m.made > impl.MaxMade {
		return &wayOut{kind: outByEnd, code: impl.OutMade}
	}
	return nil
}

// place is the line of the n-th call from the innermost one.
func (th *runThread) place(n int) string {
	if n > len(th.calls) || th.calls[len(th.calls)-n].closure == nil {
		return ""
	}
	return strconv.Itoa(th.calls[len(th.calls)-n].line) + ": "
}

func (th *runThread) fails(message string) *wayOut {
	return &wayOut{kind: outByError, err: th.place(1) + message}
}

// first calls a function of a metatable and gives its first value.
func (th *runThread) first(f any, args ...any) (any, *wayOut) {
	values, out := th.call(f, args)
	return runFirst(values), out
}

func (th *runThread) index(v, k any) (any, *wayOut) {
	for again := 0; ; again++ {
		if again > impl.MaxChain {
			return nil, th.fails("'__index' chain too long")
		}
		if _, isText := v.(string); isText {
			return th.model.texts.get(k), nil
		}
		t, isTable := v.(*runTable)
		if !isTable {
			return nil, th.fails("attempt to index a " + runType(v) + " value")
		}
		entry := runEntry(t, "__index")
		if got := t.get(k); got != nil || entry == nil {
			return got, nil
		}
		if runType(entry) == "function" {
			return th.first(entry, v, k)
		}
		v = entry
	}
}

func (th *runThread) rawset(t *runTable, k, v any) *wayOut {
	if k == nil {
		return th.fails("table index is nil")
	}
	if k != k {
		return th.fails("table index is NaN")
	}
	t.set(k, v)
	return nil
}

func (th *runThread) setIndex(v, k, x any) *wayOut {
	for again := 0; ; again++ {
		if again > impl.MaxChain {
			return th.fails("'__newindex' chain too long")
		}
		t, isTable := v.(*runTable)
		if !isTable {
			return th.fails("attempt to index a " + runType(v) + " value")
		}
		entry := runEntry(t, "__newindex")
		if entry == nil || t.get(k) != nil {
			return th.rawset(t, k, x)
		}
		if runType(entry) == "function" {
			_, out := th.call(entry, []any{v, k, x})
			return out
		}
		v = entry
	}
}

// either calls the entry of the left side's metatable, or of the right one's.
func (th *runThread) either(name, message string, a, b any) (any, *wayOut) {
	entry := runEntry(a, name)
	if entry == nil {
		entry = runEntry(b, name)
	}
	if entry == nil {
		return nil, th.fails(message)
	}
	return th.first(entry, a, b)
}

func runNumber(text string) any {
	if i, err := strconv.Atoi(text); err == nil {
		return i
	}
	f, _ := strconv.ParseFloat(text, 64)
	return f
}

func (th *runThread) arith(op int, a, b any) (any, *wayOut) {
	if isRunNumber(a) && isRunNumber(b) {
		text, code := impl.Arith(op, runNumberText(a), runNumberText(b))
		switch code {
		case impl.NumZero:
			return nil, th.fails("attempt to divide by zero")
		case impl.NumRange:
			return nil, th.fails("exponent out of range")
		case impl.NumWhole:
			return nil, th.fails("number has no integer representation")
		}
		return runNumber(text), nil
	}
	wrong := a
	if isRunNumber(a) {
		wrong = b
	}
	names := strings.Fields("__add __sub __mul __div __mod __idiv __pow __band __bor __bxor __shl __shr __unm __bnot")
	return th.either(names[op-1], "attempt to do arithmetic on a "+runType(wrong)+" value", a, b)
}

func (th *runThread) concat(a, b any) (any, *wayOut) {
	joins := func(v any) bool { return isRunNumber(v) || runType(v) == "string" }
	if joins(a) && joins(b) {
		text := runShown(a) + runShown(b)
		if len(text) > impl.MaxString {
			return nil, th.fails("string too long")
		}
		return text, th.model.count(len(text))
	}
	wrong := a
	if joins(a) {
		wrong = b
	}
	return th.either("__concat", "attempt to concatenate a "+runType(wrong)+" value", a, b)
}

func (th *runThread) equal(a, b any) (bool, *wayOut) {
	if runSame(a, b) {
		return true, nil
	}
	if runType(a) != "table" || runType(b) != "table" || runEntry(a, "__eq") == nil && runEntry(b, "__eq") == nil {
		return false, nil
	}
	v, out := th.either("__eq", "", a, b)
	return runHolds(v), out
}

func (th *runThread) less(a, b any, orEqual bool) (bool, *wayOut) {
	name := "__lt"
	if orEqual {
		name = "__le"
	}
	if isRunNumber(a) && isRunNumber(b) {
		order, _ := impl.Compare(runNumberText(a), runNumberText(b))
		return order == -1 || orEqual && order == 0, nil
	}
	s, isText := a.(string)
	if other, areTexts := b.(string); isText && areTexts {
		return s < other || orEqual && s == other, nil
	}
	message := "attempt to compare " + runType(a) + " with " + runType(b)
	if runType(a) == runType(b) {
		message = "attempt to compare two " + runType(a) + " values"
	}
	v, out := th.either(name, message, a, b)
	return runHolds(v), out
}

func (th *runThread) length(v any) (any, *wayOut) {
	switch v := v.(type) {
	case string:
		return len(v), nil
	case *runTable:
		if entry := runEntry(v, "__len"); entry != nil {
			return th.first(entry, v)
		}
		return v.length(), nil
	}
	return nil, th.fails("attempt to get length of a " + runType(v) + " value")
}

// callee is the function that a call comes to.
func (th *runThread) callee(f any, args []any) (any, []any, *wayOut) {
	for times := 0; runType(f) != "function"; times++ {
		entry := runEntry(f, "__call")
		if entry == nil {
			return nil, nil, th.fails("attempt to call a " + runType(f) + " value")
		}
		if times == impl.MaxChain {
			return nil, nil, th.fails("'__call' chain too long")
		}
		f, args = entry, append([]any{f}, args...)
	}
	if len(args) > impl.MaxValues {
		return nil, nil, th.fails("too many values")
	}
	return f, args, nil
}

// isFull tells whether as many closures and pcalls run as may.
func (th *runThread) isFull() bool {
	finals := 0
	for _, c := range th.calls {
		if c.final {
			finals++
		}
	}
	return len(th.calls)-finals >= th.model.limits.Frames
}

func (th *runThread) call(f any, args []any) ([]any, *wayOut) {
	f, args, out := th.callee(f, args)
	if out != nil {
		return nil, out
	}
	if name, ok := f.(runPrimitive); ok {
		return th.primitive(string(name), args)
	}
	closure := f.(*runFunction)
	for kind := impl.EventCall; ; kind = impl.EventTail {
		if th.isFull() {
			return nil, th.fails("stack overflow")
		}
		if out := th.model.step(); out != nil {
			return nil, out
		}
		var out *wayOut
		if closure.code != nil {
			out = th.carryOut(closure, args, kind)
		} else {
			out = th.body(closure, args)
		}
		if out == nil {
			return nil, nil
		}
		if out.kind != outByReturn {
			return nil, out
		}
		if out.tail == nil {
			return out.values, nil
		}
		closure, args = out.tail, out.values
	}
}

func (th *runThread) body(f *runFunction, args []any) *wayOut {
	c := &runCall{thread: th, closure: f}
	node := f.nodes[f.node]
	last := len(node.Kids) - 1
	seen := f.seen
	for i, param := range node.Kids[:last] {
		var v any
		if i < len(args) {
			v = args[i]
		}
		seen = c.declare(param, v, seen)
	}
	if node.Text == "..." && len(args) > last {
		c.dots = args[last:]
	}
	th.calls = append(th.calls, c)
	out := c.block(node.Kids[last], seen, node.Line, nil)
	th.calls = th.calls[:len(th.calls)-1]
	return out
}

func (c *runCall) node(n int) impl.Node { return c.closure.nodes[n] }

func (c *runCall) declare(n int, v any, seen *runScope) *runScope {
	node := c.node(n)
	return &runScope{outer: seen, name: node.Text, value: v, at: node.At, attrib: node.Int}
}

// block carries statements out, then something else with what is seen there; it leaves at the line told.
func (c *runCall) block(n int, outer *runScope, line int, then func(seen *runScope) *wayOut) *wayOut {
	kids := c.node(n).Kids
	seen := outer
	for i := 0; ; {
		var out *wayOut
		for ; i < len(kids) && out == nil; i++ {
			seen, out = c.statement(kids[i], seen)
		}
		if out == nil && then != nil {
			out = then(seen)
		}
		if out == nil {
			c.line = line
		}
		label := c.labelFor(kids, out)
		if label < 0 {
			return c.leave(seen, outer, out)
		}
		target := seen
		for target != outer && target.at > c.node(kids[label]).At {
			target = target.outer
		}
		if failed := c.leave(seen, target, nil); failed != nil {
			return c.leave(target, outer, failed)
		}
		seen, i = target, label+1
	}
}

// labelFor is which of the statements is the label of a goto, -1 if none is.
func (c *runCall) labelFor(kids []int, out *wayOut) int {
	if out == nil || out.kind != outByGoto {
		return -1
	}
	for i, kid := range kids {
		if node := c.node(kid); node.Kind == impl.NodeLabel && node.Text == out.label {
			return i
		}
	}
	return -1
}

// leave closes what is seen, the last first, up to what stays.
func (c *runCall) leave(seen, stays *runScope, out *wayOut) *wayOut {
	for ; seen != stays; seen = seen.outer {
		if !seen.closes || out != nil && (out.kind == outByEnd || out.kind == outByDrop) {
			continue
		}
		seen.closes = false
		var err any
		if out != nil {
			err = out.err
		}
		_, other := c.thread.call(runEntry(seen.value, "__close"), []any{seen.value, err})
		switch {
		case other == nil:
		case other.kind == outByError && out != nil && out.kind == outByClose:
			out = &wayOut{kind: outByClose, failed: true, err: other.err}
		default:
			out = other
		}
	}
	return out
}

func (c *runCall) inner(n int, seen *runScope) *wayOut { return c.block(n, seen, c.node(n).Line, nil) }

// statement carries a statement out, and tells what is seen behind it.
func (c *runCall) statement(n int, seen *runScope) (*runScope, *wayOut) {
	node := c.node(n)
	switch node.Kind {
	case impl.NodeLabel:
		return seen, nil
	case impl.NodeWhile:
		return seen, c.whileLoop(n, seen)
	case impl.NodeRepeat:
		return seen, c.repeatLoop(n, seen)
	}
	if out := c.thread.model.step(); out != nil {
		return seen, out
	}
	switch node.Kind {
	case impl.NodeLocal:
		return c.local(n, seen)
	case impl.NodeLocalFunc:
		seen = c.declare(node.Kids[0], nil, seen)
		v, out := c.value(node.Kids[1], seen)
		seen.value = v
		return seen, out
	}
	return seen, c.plainStatement(n, seen)
}

// plainStatement is one that declares nothing.
func (c *runCall) plainStatement(n int, seen *runScope) *wayOut {
	node := c.node(n)
	switch node.Kind {
	case impl.NodeAssign:
		return c.assign(n, seen)
	case impl.NodeRun:
		_, out := c.open(node.Kids[0], seen)
		return out
	case impl.NodeDo:
		return c.inner(node.Kids[0], seen)
	case impl.NodeIf:
		return c.choose(node.Kids, seen)
	case impl.NodeFor:
		return c.forLoop(n, seen)
	case impl.NodeIn:
		return c.inLoop(n, seen)
	case impl.NodeReturn:
		return c.giveBack(n, seen)
	}
	c.line = node.Line
	if node.Kind == impl.NodeBreak {
		return &wayOut{kind: outByBreak}
	}
	return &wayOut{kind: outByGoto, label: node.Text}
}

func (c *runCall) local(n int, seen *runScope) (*runScope, *wayOut) {
	node := c.node(n)
	values, out := c.values(node.Kids[node.Int:], seen)
	if out != nil {
		return seen, out
	}
	for i, name := range node.Kids[:node.Int] {
		var v any
		if i < len(values) {
			v = values[i]
		}
		seen = c.declare(name, v, seen)
		if seen.attrib != 2 || !runHolds(v) {
			continue
		}
		if runEntry(v, "__close") == nil {
			c.line = c.node(name).Line
			return seen, c.thread.fails("variable got a " + runType(v) + " value that cannot be closed")
		}
		seen.closes = true
	}
	return seen, nil
}

func (c *runCall) lookUp(name string, seen *runScope) *runScope {
	for ; seen != nil; seen = seen.outer {
		if seen.name == name {
			return seen
		}
	}
	return nil
}

func (c *runCall) assign(n int, seen *runScope) *wayOut {
	node := c.node(n)
	type field struct{ object, key any }
	fields := make([]field, node.Int)
	for i, target := range node.Kids[:node.Int] {
		kids := c.node(target).Kids
		if c.node(target).Kind != impl.NodeIndex {
			continue
		}
		var out *wayOut
		if fields[i].object, out = c.value(kids[0], seen); out != nil {
			return out
		}
		if fields[i].key, out = c.value(kids[1], seen); out != nil {
			return out
		}
	}
	values, out := c.values(node.Kids[node.Int:], seen)
	if out != nil {
		return out
	}
	values = append(values, make([]any, node.Int)...)
	for i, target := range node.Kids[:node.Int] {
		place := c.node(target)
		if place.Kind == impl.NodeIndex {
			c.line = place.Line
			if out := c.thread.setIndex(fields[i].object, fields[i].key, values[i]); out != nil {
				return out
			}
		} else if v := c.lookUp(place.Text, seen); v != nil {
			v.value = values[i]
		} else {
			c.thread.model.globals.set(place.Text, values[i])
		}
	}
	return nil
}

func (c *runCall) choose(kids []int, seen *runScope) *wayOut {
	for i := 0; i+1 < len(kids); i += 2 {
		v, out := c.value(kids[i], seen)
		if out != nil {
			return out
		}
		if runHolds(v) {
			return c.inner(kids[i+1], seen)
		}
	}
	if len(kids)%2 == 1 {
		return c.inner(kids[len(kids)-1], seen)
	}
	return nil
}

// turned tells whether a loop goes on behind a turn, and how it ends else.
func turned(out *wayOut) (goesOn bool, end *wayOut) {
	if out != nil && out.kind == outByBreak {
		return false, nil
	}
	return out == nil, out
}

func (c *runCall) whileLoop(n int, seen *runScope) *wayOut {
	kids := c.node(n).Kids
	for {
		if out := c.thread.model.step(); out != nil {
			return out
		}
		v, out := c.value(kids[0], seen)
		if out != nil || !runHolds(v) {
			return out
		}
		if goesOn, end := turned(c.inner(kids[1], seen)); !goesOn {
			return end
		}
	}
}

func (c *runCall) repeatLoop(n int, seen *runScope) *wayOut {
	node := c.node(n)
	for done := false; !done; {
		if out := c.thread.model.step(); out != nil {
			return out
		}
		out := c.block(node.Kids[0], seen, node.Line, func(inside *runScope) *wayOut {
			v, out := c.value(node.Kids[1], inside)
			done = runHolds(v)
			return out
		})
		if goesOn, end := turned(out); !goesOn {
			return end
		}
	}
	return nil
}

func (c *runCall) turn(names []int, values []any, block int, seen *runScope) *wayOut {
	if out := c.thread.model.step(); out != nil {
		return out
	}
	for i, name := range names {
		var v any
		if i < len(values) {
			v = values[i]
		}
		seen = c.declare(name, v, seen)
	}
	return c.inner(block, seen)
}

func (c *runCall) forLoop(n int, seen *runScope) *wayOut {
	node := c.node(n)
	last := len(node.Kids) - 1
	three := []any{nil, nil, 1}
	for i, e := range node.Kids[1:last] {
		v, out := c.value(e, seen)
		if out != nil {
			return out
		}
		three[i] = v
	}
	c.line = node.Line
	for i, what := range []string{"start", "limit", "step"} {
		if !isRunNumber(three[i]) {
			return c.thread.fails("'for' " + what + " must be a number")
		}
	}
	if runSame(three[2], 0) {
		return c.thread.fails("'for' step is zero")
	}
	_, startIsInt := three[0].(int)
	_, stepIsInt := three[2].(int)
	if !startIsInt || !stepIsInt {
		for i := range three {
			three[i] = runNumber(runAsFloat(three[i]))
		}
	}
	return c.countOn(node.Kids[:1], three, node.Kids[last], seen)
}

// runAsFloat is the text of a number made a float.
func runAsFloat(v any) string {
	text, _ := impl.Arith(impl.NumMul, "1.0", runNumberText(v))
	return text
}

// countOn goes through the turns, each held against the limit; integers end where the next one would wrap.
func (c *runCall) countOn(name []int, three []any, block int, seen *runScope) *wayOut {
	at := three[0]
	up, _ := impl.Compare(runNumberText(three[2]), "0")
	for {
		order, _ := impl.Compare(runNumberText(at), runNumberText(three[1]))
		if order == 2 || up == 1 && order == 1 || up != 1 && order == -1 {
			return nil
		}
		if goesOn, end := turned(c.turn(name, []any{at}, block, seen)); !goesOn {
			return end
		}
		text, _ := impl.Arith(impl.NumAdd, runNumberText(at), runNumberText(three[2]))
		next := runNumber(text)
		if i, isInt := next.(int); isInt && (i > at.(int)) != (up == 1) {
			return nil
		}
		at = next
	}
}

func (c *runCall) inLoop(n int, seen *runScope) *wayOut {
	node := c.node(n)
	last := len(node.Kids) - 1
	values, out := c.values(node.Kids[node.Int:last], seen)
	if out != nil {
		return out
	}
	values = append(values, nil, nil, nil)
	f, state, control := values[0], values[1], values[2]
	for {
		c.line = node.Line
		given, out := c.thread.call(f, []any{state, control})
		if out != nil {
			return out
		}
		control = runFirst(given)
		if control == nil {
			return nil
		}
		if goesOn, end := turned(c.turn(node.Kids[:node.Int], given, node.Kids[last], seen)); !goesOn {
			return end
		}
	}
}

// seesClosing tells whether a variable with <close> of this function is seen.
func (c *runCall) seesClosing(seen *runScope) bool {
	for ; seen != c.closure.seen; seen = seen.outer {
		if seen.attrib == 2 {
			return true
		}
	}
	return false
}

func (c *runCall) giveBack(n int, seen *runScope) *wayOut {
	node := c.node(n)
	isTail := len(node.Kids) == 1 && !c.seesClosing(seen)
	if isTail {
		kind := c.node(node.Kids[0]).Kind
		isTail = kind == impl.NodeCall || kind == impl.NodeMethod
	}
	if !isTail {
		values, out := c.values(node.Kids, seen)
		if out != nil {
			return out
		}
		c.line = node.Line
		return &wayOut{kind: outByReturn, values: values}
	}
	f, args, out := c.called(node.Kids[0], seen)
	if out != nil {
		return out
	}
	if f, args, out = c.thread.callee(f, args); out != nil {
		return out
	}
	if closure, ok := f.(*runFunction); ok {
		return &wayOut{kind: outByReturn, values: args, tail: closure}
	}
	values, out := c.thread.call(f, args)
	if out != nil {
		return out
	}
	return &wayOut{kind: outByReturn, values: values}
}

// called evaluates what is called and its arguments, and comes to the line of the call.
func (c *runCall) called(n int, seen *runScope) (any, []any, *wayOut) {
	node := c.node(n)
	f, out := c.value(node.Kids[0], seen)
	if out != nil {
		return nil, nil, out
	}
	var ahead []any
	if node.Kind == impl.NodeMethod {
		ahead = []any{f}
		c.line = node.Line
		if f, out = c.thread.index(f, node.Text); out != nil {
			return nil, nil, out
		}
	}
	args, out := c.values(node.Kids[1:], seen)
	c.line = node.Line
	return f, append(ahead, args...), out
}

// open gives all values of a call or of the dots.
func (c *runCall) open(n int, seen *runScope) ([]any, *wayOut) {
	if c.node(n).Kind == impl.NodeDots {
		return c.dots, nil
	}
	f, args, out := c.called(n, seen)
	if out != nil {
		return nil, out
	}
	return c.thread.call(f, args)
}

func (c *runCall) isOpen(n int) bool {
	kind := c.node(n).Kind
	return kind == impl.NodeDots || kind == impl.NodeCall || kind == impl.NodeMethod
}

func (c *runCall) values(list []int, seen *runScope) ([]any, *wayOut) {
	var values []any
	for i, n := range list {
		if i == len(list)-1 && c.isOpen(n) {
			more, out := c.open(n, seen)
			return append(values, more...), out
		}
		v, out := c.value(n, seen)
		if out != nil {
			return nil, out
		}
		values = append(values, v)
	}
	return values, nil
}

// value gives just one value.
func (c *runCall) value(n int, seen *runScope) (any, *wayOut) {
	node := c.node(n)
	switch node.Kind {
	case impl.NodeNil:
		return nil, nil
	case impl.NodeFalse, impl.NodeTrue:
		return node.Kind == impl.NodeTrue, nil
	case impl.NodeInt:
		return node.Int, nil
	case impl.NodeFloat:
		return runNumber(impl.FormatNumber(impl.Number{IsFloat: true, Bits: node.Bits})), nil
	case impl.NodeString:
		return node.Text, nil
	case impl.NodeFunction:
		return c.thread.model.newFunction(c.closure.nodes, n, seen), nil
	case impl.NodeName:
		if v := c.lookUp(node.Text, seen); v != nil {
			return v.value, nil
		}
		return c.thread.model.globals.get(node.Text), nil
	case impl.NodeTable:
		return c.tableOf(n, seen)
	case impl.NodeParen:
		return c.value(node.Kids[0], seen)
	case impl.NodeAnd, impl.NodeOr:
		v, out := c.value(node.Kids[0], seen)
		if out != nil || runHolds(v) == (node.Kind == impl.NodeOr) {
			return v, out
		}
		return c.value(node.Kids[1], seen)
	case impl.NodeIndex, impl.NodeUnary, impl.NodeBinary:
		return c.operation(n, seen)
	}
	values, out := c.open(n, seen)
	return runFirst(values), out
}

func (c *runCall) tableOf(n int, seen *runScope) (any, *wayOut) {
	t := c.thread.model.newTable()
	fields := c.node(n).Kids
	items := 0
	for i, field := range fields {
		kids := c.node(field).Kids
		if c.node(field).Kind == impl.NodePair {
			k, out := c.value(kids[0], seen)
			if out != nil {
				return nil, out
			}
			v, out := c.value(kids[1], seen)
			if out != nil {
				return nil, out
			}
			c.line = c.node(field).Line
			if out := c.thread.rawset(t, k, v); out != nil {
				return nil, out
			}
			continue
		}
		values, out := c.values(kids, seen)
		if i < len(fields)-1 {
			values = []any{runFirst(values)}
		}
		if out != nil {
			return nil, out
		}
		for _, v := range values {
			items++
			t.set(items, v)
		}
	}
	return t, nil
}

// operation is an index, or a unary or binary one, at its line.
func (c *runCall) operation(n int, seen *runScope) (any, *wayOut) {
	node := c.node(n)
	var sides []any
	for _, kid := range node.Kids {
		v, out := c.value(kid, seen)
		if out != nil {
			return nil, out
		}
		sides = append(sides, v)
	}
	c.line = node.Line
	th := c.thread
	a, b := sides[0], sides[len(sides)-1]
	var holds bool
	var out *wayOut
	switch {
	case node.Kind == impl.NodeIndex:
		return th.index(a, b)
	case node.Int == impl.OpConcat:
		return th.concat(a, b)
	case node.Int == impl.OpLen:
		return th.length(a)
	case node.Int == impl.OpNot:
		return !runHolds(a), nil
	case node.Int == impl.OpEq:
		holds, out = th.equal(a, b)
	case node.Int == impl.OpNe:
		holds, out = th.equal(a, b)
		holds = !holds
	case node.Int == impl.OpLt || node.Int == impl.OpLe:
		holds, out = th.less(a, b, node.Int == impl.OpLe)
	case node.Int == impl.OpGt || node.Int == impl.OpGe:
		holds, out = th.less(b, a, node.Int == impl.OpGe)
	default:
		return th.arith(node.Int, a, b)
	}
	return holds, out
}
