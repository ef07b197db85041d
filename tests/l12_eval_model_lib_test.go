package tests

import (
	"iter"
	"math"
	"regexp"
	"strconv"
	"strings"

	"loop.example/g00002/impl"
)

// The rest of the model of chapter 13: threads, and the primitives of chapter 12 in a run.

// runThread goes on by asking an iterator for its next value, and waits where that is handed out.
type runThread struct {
	model   *runModel
	number  int
	status  string
	job     any // what is called at the beginning
	calls   []*runCall
	next    func() ([]any, bool)
	stop    func()
	hand    func([]any) bool
	brought []any // what it is resumed with
	closing bool
	values  []any // with which it has ended
	out     *wayOut
}

func (m *runModel) newThread(f any) *runThread {
	th := &runThread{model: m, number: m.number("thread"), status: "suspended", job: f}
	m.heap.enter(th)
	return th
}

// goOn lets another thread go on until it waits or ends, and tells whether it has ended.
func (th *runThread) goOn(other *runThread, values []any) (given []any, ended bool) {
	m := th.model
	other.brought = values
	if other.next == nil {
		m.begun = append(m.begun, other)
		other.next, other.stop = iter.Pull(func(hand func([]any) bool) {
			other.hand = hand
			other.values, other.out = other.call(other.job, other.brought)
		})
	}
	th.status, other.status = "normal", "running"
	m.resumed = append(m.resumed, other)
	m.heap.tell(other, impl.EventResume, 0)
	given, waits := other.next()
	if !waits && (other.out == nil || other.out.kind != outByEnd) {
		m.heap.tell(other, impl.EventEnd, 0)
	}
	m.resumed = m.resumed[:len(m.resumed)-1]
	th.status, other.status = "running", "suspended"
	if !waits {
		other.status = "dead"
		return other.values, true
	}
	return given, false
}

func (th *runThread) wait(values []any) ([]any, *wayOut) {
	if th == th.model.main {
		return nil, th.fails("attempt to yield outside of a coroutine")
	}
	if th.closing {
		return nil, th.fails("attempt to yield from a coroutine that is closed")
	}
	if th.model.heap.finalizes() {
		return nil, th.fails("attempt to yield from a finalizer")
	}
	th.model.heap.tell(th, impl.EventYield, 0)
	if !th.hand(values) {
		return nil, &wayOut{kind: outByDrop}
	}
	if th.closing {
		return nil, &wayOut{kind: outByClose}
	}
	return th.brought, nil
}

func (th *runThread) resume(other *runThread, values []any) ([]any, *wayOut) {
	switch {
	case other.status == "dead":
		return []any{false, "cannot resume a dead coroutine"}, nil
	case other.status != "suspended":
		return []any{false, "cannot resume a coroutine that is not suspended"}, nil
	case len(th.model.resumed) > impl.MaxNested:
		return []any{false, "too many coroutines inside each other"}, nil
	}
	given, ended := th.goOn(other, values)
	if ended && other.out != nil {
		if other.out.kind == outByError {
			return []any{false, other.out.err}, nil
		}
		return nil, other.out
	}
	return append([]any{true}, given...), nil
}

func (th *runThread) close(other *runThread) ([]any, *wayOut) {
	switch {
	case other.status == "dead" || other.status == "suspended" && other.next == nil:
		other.status = "dead"
		return []any{true}, nil
	case other.status != "suspended":
		return nil, th.fails("cannot close a coroutine that is not suspended")
	case len(th.model.resumed) > impl.MaxNested:
		return []any{false, "too many coroutines inside each other"}, nil
	}
	other.closing = true
	th.goOn(other, nil)
	if other.out.kind != outByClose {
		return nil, other.out
	}
	if other.out.failed {
		return []any{false, other.out.err}, nil
	}
	return []any{true}, nil
}

// argue looks at arguments from the left by the letters of chapter 12, small ones told and capital ones perhaps not, and
// tells what is wrong with the first that is.
func argue(name, letters string, args []any) string {
	for i, letter := range letters {
		missing := i >= len(args)
		var v any
		got := "no value"
		if !missing {
			v = args[i]
			got = runType(v)
		}
		if v == nil && letter >= 'A' && letter <= 'Z' {
			continue
		}
		why := ""
		kind := map[rune]string{'s': "string", 'i': "number", 't': "table", 'f': "function", 'c': "thread"}[letter|0x20]
		switch {
		case kind != "" && got != kind && !(letter|0x20 == 's' && got == "number"):
			why = kind + " expected, got " + got
		case kind == "" && missing:
			why = "value expected"
		case letter|0x20 == 'i':
			if _, code := impl.ToInteger(runNumberText(v)); code != 0 {
				why = "number has no integer representation"
			}
		}
		if why != "" {
			return "bad argument #" + strconv.Itoa(i+1) + " to '" + name + "' (" + why + ")"
		}
	}
	return ""
}

// runForms are the arguments of the primitives behind math.ult.
var runForms = map[string]string{
	"rawlen": "", "rawget": "tv", "rawset": "tvv", "next": "t", "rawmeta": "v", "setmetatable": "t", "getmetatable": "v", "write": "",
	"error": "VI", "pcall": "v", "load": "s", "collectgarbage": "SI", "table.unpack": "tII", "coroutine.create": "f", "coroutine.resume": "c",
	"coroutine.yield": "", "coroutine.status": "c", "coroutine.running": "", "coroutine.isyieldable": "", "coroutine.close": "c",
}

func runInteger(v any) int {
	text, _ := impl.ToInteger(runNumberText(v))
	i, _ := strconv.Atoi(text)
	return i
}

func (th *runThread) primitive(name string, args []any) ([]any, *wayOut) {
	form, known := runForms[name]
	if !known {
		return th.plainPrimitive(name, args)
	}
	if wrong := argue(name, form, args); wrong != "" {
		return nil, th.fails(wrong)
	}
	some := append(append([]any{}, args...), nil, nil, nil)
	switch name {
	case "write":
		return nil, th.write(args)
	case "error":
		return nil, th.raise(some[0], some[1])
	case "pcall":
		return th.protect(args)
	case "load":
		return th.load(runShown(some[0]))
	case "collectgarbage":
		if th.model.heap != nil {
			return th.collectNow(some[0], some[1])
		}
		return th.collect(some[0])
	case "coroutine.create":
		return []any{th.model.newThread(args[0])}, nil
	case "coroutine.resume":
		return th.resume(args[0].(*runThread), args[1:])
	case "coroutine.yield":
		return th.wait(args)
	case "coroutine.status":
		return []any{args[0].(*runThread).status}, nil
	case "coroutine.running":
		return []any{th, th == th.model.main}, nil
	case "coroutine.isyieldable":
		return []any{th != th.model.main && !th.closing && !th.model.heap.finalizes()}, nil
	case "coroutine.close":
		return th.close(args[0].(*runThread))
	}
	return th.tablePrimitive(name, args, some)
}

func (th *runThread) tablePrimitive(name string, args, some []any) ([]any, *wayOut) {
	t, _ := some[0].(*runTable)
	switch name {
	case "rawlen":
		if text, isText := some[0].(string); isText {
			return []any{len(text)}, nil
		}
		if wrong := argue(name, "t", args); wrong != "" {
			return nil, th.fails(wrong)
		}
		return []any{t.length()}, nil
	case "rawget":
		return []any{t.get(some[1])}, nil
	case "rawset":
		return []any{t}, th.rawset(t, some[1], some[2])
	case "next":
		return th.nextOf(t, some[1])
	case "rawmeta", "getmetatable":
		if told := runEntry(some[0], "__metatable"); told != nil && name == "getmetatable" {
			return []any{told}, nil
		}
		if t == nil || t.meta == nil {
			return []any{nil}, nil
		}
		return []any{t.meta}, nil
	case "setmetatable":
		if _, isTable := some[1].(*runTable); !isTable && (some[1] != nil || len(args) < 2) {
			wrong := argue(name, "tt", args)
			return nil, th.fails(strings.Replace(wrong, "(table", "(nil or table", 1))
		}
		if runEntry(t, "__metatable") != nil {
			return nil, th.fails("cannot change a protected metatable")
		}
		t.meta, _ = some[1].(*runTable)
		t.heap.newMeta(t)
		return []any{t}, nil
	}
	return th.unpack(t, some[1], some[2])
}

func (th *runThread) nextOf(t *runTable, k any) ([]any, *wayOut) {
	from := 0
	if k != nil {
		place, has := t.at[runKey(k)]
		if !has {
			return nil, th.fails("invalid key to 'next'")
		}
		from = place + 1
	}
	for i := from; i < len(t.keys); i++ {
		if t.values[i] != nil {
			return []any{t.keys[i], t.values[i]}, nil
		}
	}
	return []any{nil}, nil
}

func (th *runThread) unpack(t *runTable, i, j any) ([]any, *wayOut) {
	from, to := 1, t.length()
	if i != nil {
		from = runInteger(i)
	}
	if j != nil {
		to = runInteger(j)
	}
	var values []any
	for at := from; at <= to; at++ {
		if values = append(values, t.get(at)); len(values) > impl.MaxValues {
			return nil, th.fails("too many values")
		}
		if at == math.MaxInt {
			break
		}
	}
	return values, nil
}

func (th *runThread) write(args []any) *wayOut {
	for i := range args {
		if wrong := argue("write", times("s", i+1), args); wrong != "" {
			return th.fails(wrong)
		}
	}
	text := ""
	for _, v := range args {
		text += runShown(v)
	}
	if m := th.model; m.output.Len()+len(text) > m.limits.Output {
		return &wayOut{kind: outByEnd, code: impl.OutOutput}
	}
	th.model.output.WriteString(text)
	return nil
}

func (th *runThread) raise(v, level any) *wayOut {
	n := 1
	if level != nil {
		n = runInteger(level)
	}
	if text, isText := v.(string); isText && n > 0 {
		v = th.place(n) + text
	}
	return &wayOut{kind: outByError, err: v}
}

func (th *runThread) protect(args []any) ([]any, *wayOut) {
	if th.isFull() {
		return nil, th.fails("stack overflow")
	}
	th.calls = append(th.calls, &runCall{thread: th})
	values, out := th.call(args[0], args[1:])
	th.calls = th.calls[:len(th.calls)-1]
	if out != nil && out.kind == outByError {
		return []any{false, out.err}, nil
	}
	return append([]any{true}, values...), out
}

func (th *runThread) load(source string) ([]any, *wayOut) {
	if out := th.model.count(len(source)); out != nil {
		return nil, out
	}
	if _, fault := impl.Compile(source); fault.Code != 0 {
		return []any{nil, strconv.Itoa(fault.Line) + ": fault " + strconv.Itoa(fault.Code)}, nil
	}
	return []any{th.model.textFunction(source)}, nil
}

func (th *runThread) collect(option any) ([]any, *wayOut) {
	switch runShown(option) {
	case "nil", "collect", "count", "stop", "restart":
		if option != "nil" {
			return []any{0}, nil
		}
	case "step":
		return []any{true}, nil
	}
	return nil, th.fails("bad argument #1 to 'collectgarbage' (invalid option)")
}

// runLit is a value as a plain one, if it is one.
func runLit(v any) (impl.Lit, bool) {
	switch v := v.(type) {
	case nil:
		return impl.Lit{}, true
	case bool:
		return boolLit(v), true
	case int:
		return intLit(v), true
	case float64:
		return floatLit(v), true
	case string:
		return textLit(v), true
	}
	return impl.Lit{}, false
}

func runOfLit(l impl.Lit) any {
	switch l.Kind {
	case impl.LitBool:
		return l.Int == 1
	case impl.LitInt:
		return l.Int
	case impl.LitFloat:
		return math.Float64frombits(l.Bits)
	case impl.LitText:
		return l.Text
	}
	return nil
}

// plainPrimitive asks CallPlain, which knows no objects. Where they may stand they are told by texts that no other value
// has, and found again in what is given.
func (th *runThread) plainPrimitive(name string, args []any) ([]any, *wayOut) {
	var plain []impl.Lit
	stand := map[string]any{}
	for i, v := range args {
		l, is := runLit(v)
		if !is {
			text := "\x00" + runShown(v) + "\x00"
			stand[text] = v
			l = textLit(text)
			switch {
			case name == "rawtostring" || name == "string.format" && i > 0 && strings.Contains("s-", conversionOf(runShown(args[0]), i)):
				l = textLit(runShown(v))
			case name == "string.format" && i > 0:
				_, message, _ := impl.CallPlain(name, plain)
				message = strings.Replace(message, "(value expected", "(value has no literal form", 1)
				return nil, th.fails(strings.Replace(message, "got no value", "got "+runType(v), 1))
			case name == "type" && i == 0:
				return th.given([]any{runType(v)})
			case name == "select" && i > 0 || name == "rawequal" || name == "math.type" || name == "math.tointeger" || name == "tonumber" && i == 0 && (len(args) == 1 || args[1] == nil):
			default:
				if message := wrongObject(name, plain, v); message != "" {
					return nil, th.fails(message)
				}
			}
		}
		plain = append(plain, l)
	}
	values, message, code := impl.CallPlain(name, plain)
	if code != 0 {
		return nil, th.fails(message)
	}
	var given []any
	for _, l := range values {
		v := runOfLit(l)
		if text, isText := v.(string); isText && stand[text] != nil {
			v = stand[text]
		}
		given = append(given, v)
	}
	return th.given(given)
}

// conversionOf is the letter of the n-th conversion of a format, - if there is none.
func conversionOf(format string, n int) string {
	for _, found := range regexp.MustCompile(`%[-0+]*\d?\d?(?:\.\d?\d?)?([^%\d])|%%`).FindAllStringSubmatch(format, -1) {
		if found[1] != "" {
			n--
		}
		if n == 0 {
			return found[1]
		}
	}
	return "-"
}

// wrongObject is the message for an object where none may stand: that for a boolean, with the object's type. There is none
// behind the arguments that are looked at.
func wrongObject(name string, ahead []impl.Lit, v any) string {
	args := append(ahead, boolLit(true))
	if name == "tonumber" && len(args) == 1 {
		args = append(args, intLit(10))
	}
	_, message, _ := impl.CallPlain(name, args)
	if !strings.HasPrefix(message, "bad argument #"+strconv.Itoa(len(ahead)+1)+" ") {
		return message
	}
	return strings.Replace(message, "got boolean", "got "+runType(v), 1)
}

// given counts the strings among values as made.
func (th *runThread) given(values []any) ([]any, *wayOut) {
	bytes := 0
	for _, v := range values {
		if text, isText := v.(string); isText {
			bytes += len(text)
		}
	}
	return values, th.model.count(bytes)
}

func (m *runModel) textFunction(source string) *runFunction {
	if m.heap != nil {
		return m.chunkFunction(chunkOf(source))
	}
	tree, _ := impl.Parse(source)
	return m.newFunction(tree.Nodes, len(tree.Nodes)-1, nil)
}

// runOrder has the primitives in the order in which they are set.
const runOrder = "type rawtostring tonumber rawequal rawlen select rawget rawset next rawmeta setmetatable getmetatable write error pcall load collectgarbage " +
	"string.len string.sub string.upper string.lower string.rep string.reverse string.byte string.char string.find string.match string.rawgsub string.format " +
	"math.floor math.abs math.tointeger math.type math.ult table.unpack coroutine.create coroutine.resume coroutine.yield coroutine.status coroutine.running " +
	"coroutine.isyieldable coroutine.close"

func newRunModel(limits impl.Limits, heap *runHeap) *runModel {
	m := &runModel{numbers: map[string]int{}, heap: heap}
	m.globals = m.newTable()
	parts := map[string]*runTable{}
	for _, name := range []string{"string", "math", "table", "coroutine"} {
		parts[name] = m.newTable()
	}
	m.texts = parts["string"]
	m.main = m.newThread(nil)
	m.main.status = "running"
	m.resumed = []*runThread{m.main}
	m.globals.set("_G", m.globals)
	for _, name := range strings.Fields(runOrder) {
		part, field, inside := strings.Cut(name, ".")
		if !inside {
			m.globals.set(name, runPrimitive(name))
			continue
		}
		m.globals.set(part, parts[part])
		parts[part].set(field, runPrimitive(name))
	}
	parts["math"].set("maxinteger", math.MaxInt)
	parts["math"].set("mininteger", math.MinInt)
	parts["math"].set("huge", math.Inf(1))
	m.limits = impl.Limits{Steps: math.MaxInt, Frames: 1}
	m.main.call(m.textFunction(impl.Prelude()), nil)
	m.limits, m.ticks, m.made = limits, 0, 0
	return m
}

// modelEvaluate is Evaluate of a source that has no fault, with limits that are right.
func modelEvaluate(source string, limits impl.Limits) impl.Outcome {
	m := newRunModel(limits, nil)
	return m.tells(m.textFunction(source))
}

// tells calls the function of a text, and tells what has come of it, when no thread waits any more.
func (m *runModel) tells(text *runFunction) impl.Outcome {
	defer m.stopThreads()
	return m.tellsOne(text)
}

func (m *runModel) stopThreads() {
	for _, th := range m.begun {
		th.stop()
	}
}

// tellsOne is one text of perhaps several.
func (m *runModel) tellsOne(text *runFunction) impl.Outcome {
	values, out := m.main.call(text, nil)
	told := impl.Outcome{Output: m.output.String(), Ticks: m.ticks, Made: m.made}
	switch {
	case out != nil && out.kind == outByError:
		told.Code, told.Error = impl.OutError, runShown(out.err)
	case out != nil:
		told.Code = out.code
	default:
		for _, v := range values[:min(len(values), impl.MaxResults)] {
			told.Results = append(told.Results, runShown(v))
		}
	}
	return told
}
