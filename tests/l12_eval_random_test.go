package tests

import (
	"strings"
	"sync"
	"testing"

	"loop.example/g00002/impl"
)

// runGrower makes programs that do something at most of their places: they put out what they come by, and have objects
// with all entries of metatables at hand.
type runGrower struct {
	grower
	depth   int
	dots    bool
	loops   int
	inside  int      // how many functions are around
	names   []string // the variables that are seen
	labels  []string
	made    int
	objects bool // objects may be shown, so that their numbers are
}

// runHead are the things at hand: p puts values out and gives them on, o makes an object with all entries, c one that tells
// when it is closed, and may fail then.
const runHead = `local function p(...) for i = 1, select("#", ...) do local v = (select(i, ...)) write(SHOW(v), " ") end return ... end
local function c(k, bad) return setmetatable({}, {__close = function(o, e) p("close", k, e) if bad == 1 then error("bad" .. k, 0) end if bad == 2 then p(pcall(coroutine.yield, k)) end end}) end
local M = {}
for k, e in next, {"index", "newindex", "add", "sub", "mul", "div", "mod", "idiv", "pow", "band", "bor", "bxor", "shl", "shr", "unm", "bnot", "concat", "eq", "lt", "le", "len", "call"} do
M["__" .. e] = function(a, b, d) p(e) if b == 3 then error(e, 2) end if b == 4 then return coroutine.yield(e) end if b == 5 then return end return b, d end
end
local function o() return setmetatable({}, M) end
local n = 0
`

func (g *runGrower) one(choices ...string) string { return choices[g.pick(len(choices))] }

func (g *runGrower) name() string {
	if len(g.names) > 0 && g.pick(5) > 0 {
		return g.names[g.pick(len(g.names))]
	}
	return g.one("x", "y", "z")
}

func (g *runGrower) list(most int, one func() string) string {
	var parts []string
	for range g.pick(most + 1) {
		parts = append(parts, one())
	}
	return strings.Join(parts, ", ")
}

func (g *runGrower) literal() string {
	return g.one("nil", "true", "false", "0", "1", "2", "3", "4", "5", "7", "-1", "1.5", "2.0", "0.0", "'a'", "'b'", "'12'", "''", "math.huge", "math.mininteger", "{}", "n")
}

func (g *runGrower) expr() string {
	g.depth++
	defer func() { g.depth-- }()
	if g.depth > 6 || !g.spend() {
		return g.one(g.literal(), g.name())
	}
	signs := []string{"+", "-", "*", "/", "%", "//", "^", "&", "|", "~", "<<", ">>", "..", "==", "~=", "<", "<=", ">", ">=", "and", "or"}
	switch g.pick(24) {
	case 0, 1, 2:
		return "(" + g.expr() + " " + signs[g.pick(len(signs))] + g.one(" ", "\n") + g.expr() + ")"
	case 3:
		return g.one("not ", "- ", "~", "#") + g.expr()
	case 4, 5:
		return g.call()
	case 6:
		return "{" + g.list(4, g.field) + "}"
	case 7:
		return g.name() + g.one(".x", "[1]", "["+g.expr()+"]", "\n.y")
	case 8, 9:
		return g.function()
	case 10, 11:
		return "o()"
	case 12:
		return "(" + g.expr() + ")"
	case 13:
		if g.dots {
			return g.one("...", "(...)", "select('#', ...)")
		}
	case 14:
		return g.one("coroutine.create", "coroutine.wrap") + "(" + g.function() + ")"
	case 15:
		return "p(" + g.list(3, g.expr) + ")"
	}
	return g.one(g.literal(), g.name(), g.name())
}

func (g *runGrower) field() string {
	switch g.pick(4) {
	case 0:
		return g.one("x", "y", "__index", "__call", "__close") + " = " + g.expr()
	case 1:
		return "[" + g.expr() + "] = " + g.expr()
	}
	return g.expr()
}

func (g *runGrower) call() string {
	args := func() string { return "(" + g.list(3, g.expr) + ")" }
	switch g.pick(16) {
	case 0, 1, 2:
		return "p" + args()
	case 3:
		return g.name() + args()
	case 4:
		return g.name() + g.one(":x", ":y", ".x") + args()
	case 5, 6:
		return "pcall(" + g.one(g.function(), g.name(), "error", "p", "pcall") + ", " + g.expr() + ")"
	case 7:
		return "xpcall(" + g.function() + ", " + g.one("p", g.function()) + ")"
	case 8, 14:
		return "coroutine.yield" + args()
	case 9:
		return "coroutine." + g.one("resume", "close", "status") + "(" + g.name() + ", " + g.expr() + ")"
	case 10:
		return "coroutine." + g.one("running", "isyieldable") + "()"
	case 11:
		return g.one("type", "tostring", "rawlen", "select", "next", "rawget", "getmetatable", "tonumber", "math.type", "table.unpack", "rawequal", "ipairs", "string.len", "assert") + args()
	case 12:
		return "setmetatable(" + g.one("{}", "o()", g.name()) + ", " + g.one("M", "nil", "{"+g.list(2, g.field)+"}") + ")"
	case 13:
		if g.pick(4) == 0 && g.inside < 2 {
			return "load(" + g.quoted() + ")" + args()
		}
		return "error(" + g.expr() + g.one(")", ", 0)", ", 2)", ", 3)")
	}
	return "(" + g.function() + ")" + args()
}

// quoted is a text that sees none of the variables.
func (g *runGrower) quoted() string {
	inner := *g
	inner.names, inner.labels, inner.loops, inner.dots, inner.inside = nil, nil, 0, true, 3
	text := inner.block(2)
	g.chance, g.room, g.made = inner.chance, inner.room, inner.made
	if strings.Contains(text, "]==]") {
		return "'return 1'"
	}
	return "[==[\n" + text + "]==]"
}

func (g *runGrower) function() string {
	names, labels, loops, dots := g.names, g.labels, g.loops, g.dots
	g.inside++
	defer func() { g.names, g.labels, g.loops, g.dots, g.inside = names, labels, loops, dots, g.inside-1 }()
	g.names = append([]string{}, names...)
	g.labels, g.loops = nil, 0
	g.dots = g.pick(2) == 0
	var params []string
	for range g.pick(3) {
		name := g.one("a", "b", "d")
		params = append(params, name)
		g.names = append(g.names, name)
	}
	if g.dots {
		params = append(params, "...")
	}
	return "function(" + strings.Join(params, ", ") + ") " + g.block(3) + "end"
}

// block makes up to so many statements; what they declare is gone behind it.
func (g *runGrower) block(most int) string {
	names, labels := g.names, g.labels
	defer func() { g.names, g.labels = names, labels }()
	g.names = append([]string{}, names...)
	text := ""
	if g.pick(6) == 0 {
		g.made++
		label := "l" + intLitText(g.made)
		g.labels = append(append([]string{}, labels...), label)
		text = "::" + label + ":: n = n + 1 "
	}
	for range g.pick(most + 1) {
		text += g.statement() + g.one(" ", " ", "\n")
	}
	if g.pick(4) == 0 {
		text += "return " + g.one(g.list(3, g.expr), g.call()) + " "
	}
	return text
}

func (g *runGrower) statement() string {
	g.depth++
	defer func() { g.depth-- }()
	if g.depth > 8 || !g.spend() {
		return "p(" + g.name() + ")"
	}
	switch g.pick(26) {
	case 0, 1, 2, 3:
		return g.call()
	case 4, 5, 6:
		return g.local()
	case 7:
		name := g.one("a", "b", "f")
		g.names = append(g.names, name)
		return "local function " + name + strings.TrimPrefix(g.function(), "function")
	case 8, 9:
		return g.target() + " = " + g.expr()
	case 10:
		return g.target() + ", " + g.target() + " = " + g.expr() + ", " + g.expr()
	case 11:
		return "do " + g.block(3) + "end"
	case 12, 13:
		return "if " + g.expr() + " then " + g.block(2) + g.one("", "else "+g.block(2), "elseif "+g.expr()+" then "+g.block(1)) + "end"
	case 14:
		return "while " + g.one("n < 9", g.expr()) + " do n = n + 1 " + g.loop("") + "end"
	case 15:
		return "repeat n = n + 1 " + g.repeatBody()
	case 16, 17:
		return "for i = " + g.one("1, 3", "3, 1, -1", "1, 2, 0.5", g.expr()+", "+g.expr()) + " do " + g.loop("i") + "end"
	case 18, 19:
		return "for k in " + g.one("next, {5, 6, x = 7}", "pairs(o())", "coroutine.wrap("+g.function()+")", g.expr(), "pairs({1, 2})") + " do " + g.loop("k") + "end"
	case 20:
		if g.loops > 0 {
			return "if " + g.expr() + " then break end"
		}
	case 21:
		if len(g.labels) > 0 {
			return "if n < 8 then n = n + 1 goto " + g.labels[g.pick(len(g.labels))] + " end"
		}
	case 22, 23:
		return "p(pcall(" + g.one(g.function(), g.function()+", "+g.expr(), g.function()+", "+g.expr()+", "+g.expr()) + "))"
	case 24:
		return "n = n + 1"
	}
	if len(g.labels) > 0 && g.pick(2) == 0 {
		return g.local() + " if n < 8 then n = n + 1 goto " + g.labels[len(g.labels)-1] + " end"
	}
	return g.call()
}

func (g *runGrower) target() string {
	return g.one(g.name(), g.name(), g.name()+".x", g.name()+"[1]", g.name()+"["+g.expr()+"]", "o().x")
}

func (g *runGrower) local() string {
	name := g.one("a", "b", "d", "e")
	defer func() { g.names = append(g.names, name) }()
	switch g.pick(5) {
	case 0, 1:
		return "local " + name + "z <close> = " + g.one("c("+intLitText(g.pick(9))+")", "c("+intLitText(g.pick(9))+", 1)", "c("+intLitText(g.pick(9))+", 2)", "nil", "false", g.expr())
	case 2:
		return "local " + name + ", " + g.one("a", "b") + " = " + g.expr()
	}
	return "local " + name + " = " + g.expr()
}

func (g *runGrower) loop(name string) string {
	names := g.names
	g.loops++
	defer func() { g.names, g.loops = names, g.loops-1 }()
	if name != "" {
		g.names = append(append([]string{}, names...), name)
	}
	return g.block(3)
}

// repeatBody has no return ahead of its condition.
func (g *runGrower) repeatBody() string {
	body := g.loop("")
	return "do " + body + "end " + g.local() + " until n > 5 or " + g.expr()
}

// whole makes a program of a head and statements.
func (g *runGrower) whole() string {
	show := "(type(v) == 'table' or type(v) == 'function' or type(v) == 'thread') and type(v) or rawtostring(v)"
	if g.objects {
		show = "rawtostring(v)"
	}
	text := strings.Replace(runHead, "SHOW(v)", show, 1)
	for range 1 + g.pick(4) {
		switch g.pick(5) {
		case 0:
			text += g.statement() + "\n"
		case 1:
			text += "local w = coroutine.create(" + g.function() + ") for i = 1, " + g.one("0", "1", "1", "2", "3", "5") + " do p(coroutine.status(w), coroutine.resume(w, " + g.expr() + ")) end p(coroutine.close(w))\n"
		default:
			text += "p(pcall(function(...) " + g.block(6) + "end, " + g.expr() + "))\n"
		}
	}
	return text + g.block(3)
}

func grownRuns(count int, objects bool) []string {
	const each = 1200
	chance := words(count*3 + each)
	var texts []string
	for i := range count {
		g := runGrower{grower: grower{chance: chance[3*i : 3*i+each], room: 10 + i%120}, objects: objects}
		texts = append(texts, g.whole())
	}
	return texts
}

// modestTexts are such programs without numbers of objects.
func modestTexts(count int) []string { return grownRuns(count, false) }

// someLimits are limits by a number, most of them such that a run meets none of them.
func someLimits(i int) impl.Limits {
	limits := impl.Limits{Steps: 3000, Frames: 60, Output: 5000}
	switch i % 7 {
	case 1:
		limits.Steps = 20 + i%400
	case 2:
		limits.Frames = 1 + i%9
	case 3:
		limits.Output = i % 200
	}
	return limits
}

func behindHead(text string) string {
	_, behind, _ := strings.Cut(text, "local n = 0\n")
	return behind
}

func TestEvaluateOfRandomPrograms(t *testing.T) {
	t.Parallel()
	var lock sync.Mutex
	codes, faults, outputs := map[int]int{}, 0, 0
	texts := grownRuns(5000, true)
	var group sync.WaitGroup
	const workers = 8
	for w := range workers {
		group.Add(1)
		go func() {
			defer group.Done()
			for i := w; i < len(texts); i += workers {
				limits := someLimits(i)
				if _, fault := impl.Compile(texts[i]); fault.Code != 0 {
					lock.Lock()
					codes[-fault.Code]++
					faults++
					lock.Unlock()
					continue
				}
				got := impl.Evaluate(texts[i], limits)
				want := modelEvaluate(texts[i], limits)
				if !sameOutcome(got, want) {
					t.Errorf("%s\n%v\n%s, the model:\n%s", behindHead(texts[i]), limits, outcomeText(got), outcomeText(want))
				}
				if again := impl.Evaluate(texts[i], limits); !sameOutcome(got, again) {
					t.Errorf("%s\n%s, then\n%s", texts[i], outcomeText(got), outcomeText(again))
				}
				if i%5 == 0 && got.Code != impl.OutBudget {
					checkBudget(t, texts[i], limits, got)
				}
				checkExec(t, texts[i], limits, got)
				lock.Lock()
				codes[got.Code]++
				outputs += len(got.Output)
				lock.Unlock()
			}
		}()
	}
	group.Wait()
	t.Log(codes, faults, outputs)
	if codes[0] < 1000 || codes[impl.OutError] < 500 || codes[impl.OutBudget] < 100 || codes[impl.OutOutput] < 100 || faults > 600 || outputs < 100000 {
		t.Errorf("codes %v, %d faults, %d bytes put out", codes, faults, outputs)
	}
}
