package tests

import (
	"fmt"
	"math"
	"slices"
	"strconv"
	"strings"
	"testing"

	"loop.example/g00002/impl"
)

// looked holds the stops of a text at some lines against those told, a row each, and against the model.
func looked(t *testing.T, source string, limits impl.Limits, lines []int, want string) impl.Outcome {
	t.Helper()
	chunk := compiled(t, source)
	checkDebug(t, source, chunk, limits, lines)
	stops, o := impl.Debug(chunk, limits, lines)
	if got := stopsText(stops); got != bare(want) {
		t.Errorf("%s\n%s\nnot\n%s", source, got, bare(want))
	}
	return o
}

// checkDebug holds Debug of a safe chunk at some lines against the model, Exec, Trace and a second call.
func checkDebug(t *testing.T, name string, chunk impl.Chunk, limits impl.Limits, lines []int) []impl.Stop {
	t.Helper()
	_, _, want := modelExec(chunk, limits, lines...)
	events, _ := impl.Trace(chunk, limits)
	checkLooks(t, name, chunk, limits, lines, want, events, impl.Exec(chunk, limits))
	stops, _ := impl.Debug(chunk, limits, lines)
	if again, _ := impl.Debug(chunk, limits, lines); !sameStops(stops, again) {
		t.Errorf("%s: %s, then %s", short(name), stopsText(stops), stopsText(again))
	}
	return stops
}

// upTo are the numbers from 1 on.
func upTo(n int) []int {
	var list []int
	for i := range n {
		list = append(list, i+1)
	}
	return list
}

func TestDebugStops(t *testing.T) {
	t.Parallel()
	for _, r := range []struct {
		source string
		lines  []int
		want   string
	}{
		{"local a, b = 5, 's'\nlocal c = a\nc = b", []int{2}, "1@2: 2(5, s, nil, nil)"},
		{"local a, b = 5, 's'\nlocal c = a\nc = b", []int{3}, "1@3: 3(5, s, 5, nil)"},
		{"local a, b = 5, 's'\nlocal c = a\nc = b", []int{1, 2, 3}, "1@1: 1(nil, nil, nil, nil)\n1@2: 2(5, s, nil, nil)\n1@3: 3(5, s, 5, nil)"},
		{"local a, b = 5, 's'\nlocal c = a\nc = b", []int{3, 1}, "1@1: 1(nil, nil, nil, nil)\n1@3: 3(5, s, 5, nil)"},
		{"local a\nlocal b", nil, ""},
		{"local a\nlocal b", []int{}, ""},
		{"local a\nlocal b", []int{0, 3, -1, 4, math.MaxInt, math.MinInt}, ""},
		{"local a\nlocal b", []int{2, 2, 2}, "1@2: 2(nil, nil)"},
		{"", upTo(100), ""},
		{"return\n1", []int{1}, "1@1: 1(nil)"},
		{"return\n1", []int{2}, ""},
		// Several steps of one line, and loops.
		{"local a = 1 a = 2 a = 3", []int{1}, "1@1: 1(nil, nil)\n1@1: 1(1, nil)\n1@1: 1(2, 2)"},
		{"for i = 1, 2 do\nlocal x = i * 10\nend", []int{1, 2}, "1@1: 1(nil, nil, nil, nil, nil, nil)\n1@1: 1(1, 1, 1, 1, nil, nil)\n1@2: 2(1, 1, 1, 1, nil, nil)\n1@1: 1(2, 0, 1, 2, 10, 10)\n1@2: 2(2, 0, 1, 2, 10, 10)"},
		{"local n = 0\nwhile n < 2 do n = n + 1 end", []int{2}, "1@2: 2(0, nil, nil)\n1@2: 2(0, true, 2)\n1@2: 2(1, 1, 1)\n1@2: 2(1, true, 2)\n1@2: 2(2, 2, 1)"},
		// Calls: the line of a frame below is that of the call.
		{"local function f(x)\nlocal y = x\nend\nlocal z = f(7)\nf(\n8)", []int{2}, "1@2: 2(7, nil) 4(function: 22, function: 22, 7, nil)\n1@2: 2(8, nil) 5(function: 22, nil, function: 22, 8)"},
		{"local function f(x)\nlocal y = x\nend\nlocal z = f(7)\nf\n(8)", []int{2}, "1@2: 2(7, nil) 4(function: 22, function: 22, 7, nil)\n1@2: 2(8, nil) 6(function: 22, nil, function: 22, 8)"},
		// A call in the last place leaves no frame.
		{"local function g()\nlocal a end\nlocal function f()\nreturn g() end\nf()\nreturn f()", []int{2}, "1@2: 2(nil) 5(function: 22, function: 23, function: 23)\n1@2: 2(nil)"},
		// Further arguments stand in no register.
		{"local function f(a, ...)\nlocal b = ...\nend\nf(1, 2, 3)", []int{2}, "1@2: 2(1, nil) 4(function: 22, function: 22, 1, 2, 3)"},
		// A metatable's function, an iterator, a text that is loaded.
		{"local t = setmetatable({}, {__index = function(t, k)\nreturn k end})\nlocal x = t.name", []int{2}, "1@2: 2(table: 6, name, nil) 3(table: 6, table: 6, table: 7, function: 22)"},
		{"for i in function(s, c)\nif not c then return 1 end\nend do end", []int{2}, "1@2: 2(nil, nil, nil) 1(function: 22, nil, nil, nil, nil, nil)\n1@2: 2(nil, nil, true) 1(function: 22, nil, nil, nil, nil, nil)\n1@2: 2(nil, 1, nil) 1(function: 22, nil, 1, 1, nil, nil)"},
		{"load('\\n\\nlocal x = ...')(5)", []int{3}, "1@3: 3(nil) 1(function: 22, 5)"},
	} {
		looked(t, r.source, paced(0), r.lines, r.want)
	}
}

// Registers of every kind of value, shown, cut to 40 bytes.
func TestDebugShows(t *testing.T) {
	t.Parallel()
	for expression, want := range map[string]string{
		"nil": "nil", "true": "true", "false": "false", "0": "0", "-7": "-7", "math.mininteger": "-9223372036854775808", "1.0": "1.0", "-0.0": "-0.0", "0/0": "nan", "math.huge": "inf", "-math.huge": "-inf",
		"1e300": "1e+300", "0.1": "0.1", "''": "", "'a b'": "a b", "'\\0\\255\\n'": "\x00\xff\n", "{}": "table: 6", "_G": "table: 1", "type": "builtin: type", "coroutine.isyieldable": "builtin: coroutine.isyieldable", "print": "function: 3",
		"function() end": "function: 22", "coroutine.running()": "thread: 1", "coroutine.create(print)": "thread: 2", "('x'):rep(39)": times("x", 39), "('x'):rep(40)": times("x", 40), "('x'):rep(41)": times("x", 40),
		"('x'):rep(65536)": times("x", 40), "('ab'):rep(30)": times("ab", 20), "('x'):rep(39) .. 'é'": times("x", 39) + "\xc3", "setmetatable({}, {__tostring = function() return 'no' end})": "table: 6", "('\\0'):rep(50)": times("\x00", 40),
	} {
		source := "local v = " + expression + "\nlocal w"
		chunk := compiled(t, source)
		checkDebug(t, source, chunk, paced(1), []int{2})
		stops, _ := impl.Debug(chunk, paced(1), []int{2})
		if len(stops) != 1 || len(stops[0].Frames) != 1 || stops[0].Frames[0].Regs[0] != want {
			t.Errorf("%s: %s, not %q", expression, stopsText(stops), want)
		}
	}
	// All registers of a function, however many.
	names := shortNames(impl.MaxLocals)
	source := "local " + strings.Join(names, ", ") + " = 1, 2, 3\ndo end"
	stops := checkDebug(t, source, compiled(t, source), paced(1), []int{2})
	if regs := stops[0].Frames[0].Regs; len(regs) != impl.MaxLocals || regs[2] != "3" || regs[3] != "nil" || regs[impl.MaxLocals-1] != "nil" {
		t.Errorf("%s", stopsText(stops))
	}
	chunk := coded(t, "regs 250 line 1 dots consts 2.5 \"text\"\n1: Const 249 0; Const 100 1; Tick; Return 0 1")
	stops = checkDebug(t, "all registers", chunk, paced(0), []int{1})
	if regs := stops[0].Frames[0].Regs; len(regs) != impl.MaxRegs || regs[249] != "2.5" || regs[100] != "text" || regs[0] != "nil" {
		t.Errorf("%s", stopsText(stops))
	}
}

// Registers as they are: of variables that closures share, that are gone, and while things are closed.
func TestDebugRegisters(t *testing.T) {
	t.Parallel()
	for _, r := range []struct {
		source string
		lines  []int
		want   string
	}{
		{"local x = 1 local function f() x = x + 1\nlocal y = x end f()\nf()", []int{2}, "1@2: 2(1, function: 22, nil)\n1@2: 2(2, 1) 2(2, function: 22, function: 22)\n1@2: 2(3, 1) 3(3, function: 22, function: 22)"},
		{"do local a, b = 1, 2 end\nlocal c", []int{2}, "1@2: 2(1, 2)"},
		{"local function f(x) return x end\nlocal a = f(5)\nlocal b", []int{3}, "1@3: 3(function: 22, 5, 5)"},
		{"local c <close> = setmetatable({}, {__close = function(o, e)\nlocal x = e end})\nerror('e', 0)", []int{2}, "1@2: 2(table: 6, e, nil) 3(table: 6, builtin: error, e, 0)"},
		{"local c <close> = setmetatable({}, {__close = function(o, e)\nlocal x = e end})\nreturn 7", []int{2}, "1@2: 2(table: 6, nil, nil) 3(table: 6, 7, table: 7, function: 22)"},
		{"local t = {}\nt.x, t.y = 1, 2\nlocal z", []int{3}, "1@3: 3(table: 6, table: 6, x, table: 6, y, 1, 2)"},
	} {
		looked(t, r.source, paced(0), r.lines, r.want)
	}
}

// Frames of pcalls, of finalizers, and those of other threads, which aren't told.
func TestDebugFrames(t *testing.T) {
	t.Parallel()
	for _, r := range []struct {
		source string
		lines  []int
		want   string
	}{
		{"pcall(function()\nlocal x end)", []int{2}, "1@2: 2(nil) pcall 1(builtin: pcall, function: 22)"},
		{"pcall(pcall, pcall, function(a)\nlocal x end, 5)", []int{2}, "1@2: 2(5, nil) pcall pcall pcall 1(builtin: pcall, builtin: pcall, builtin: pcall, function: 22, 5)"},
		{"return pcall(function()\nlocal x end)", []int{2}, "1@2: 2(nil) pcall 1(builtin: pcall, function: 22)"},
		{"pcall(error)\nlocal x", []int{2}, "1@2: 2(builtin: pcall, builtin: error)"},
		{"setmetatable({}, {__gc = function(o)\nlocal x = o end}) local y\ncollectgarbage()\nlocal z\nlocal w", []int{2, 4, 5},
			"1@2: 2(builtin: setmetatable, table: 6, table: 7, function: 22)\n1@4: 4(nil, builtin: collectgarbage, table: 7, function: 22)\n" +
				"1@2: 2(table: 6, nil) final 4(nil, builtin: collectgarbage, table: 7, function: 22)\n1@5: 5(nil, nil, table: 7, function: 22)"},
		{"setmetatable({}, {__gc = function() pcall(function()\nlocal x end) end}) local y\ncollectgarbage()\nlocal z", []int{2},
			"1@2: 2(builtin: setmetatable, table: 6, table: 7, function: 22)\n1@2: 2(nil) pcall 1(builtin: pcall, function: 23) final 4(nil, builtin: collectgarbage, table: 7, function: 22)"},
		// Threads, by the numbers by which they are shown.
		{"local c = coroutine.create(function(a)\nlocal b = a\ncoroutine.yield()\nlocal d end)\ncoroutine.resume(c, 7)\nlocal e\ncoroutine.resume(c)", []int{2, 4, 6},
			"2@2: 2(7, nil, nil)\n1@6: 6(thread: 2, builtin: coroutine.resume, thread: 2, 7)\n2@4: 4(7, 7, builtin: coroutine.yield)"},
		{"coroutine.create(print) coroutine.create(print) local c = coroutine.create(function()\nlocal x end)\ncoroutine.resume(c)", []int{2, 3}, "1@3: 3(thread: 4, function: 22, nil)\n4@2: 2(nil)"},
		{"local a = coroutine.create(function()\nlocal b = coroutine.create(function()\nlocal x end)\ncoroutine.resume(b)\nlocal y end)\ncoroutine.resume(a)", []int{3, 5}, "3@3: 3(nil)\n2@5: 5(thread: 3, builtin: coroutine.resume, thread: 3)"},
		{"local c = coroutine.create(function() local x <close> = setmetatable({}, {__close = function()\nlocal y end})\ncoroutine.yield() end) coroutine.resume(c)\ncoroutine.close(c)", []int{2},
			"2@2: 2(nil) 3(table: 6, builtin: coroutine.yield, table: 7, function: 23)"},
		{"pcall(function() coroutine.wrap(function()\nlocal x end)() end)", []int{2}, "2@2: 2(nil)"},
	} {
		looked(t, r.source, paced(0), r.lines, r.want)
	}
}

// At most MaxViews frames, those from the top.
func TestDebugManyFrames(t *testing.T) {
	t.Parallel()
	for _, depth := range []int{1, 18, 19, 20, 21, 150} {
		// The text and the functions; each of these has its depth in the first register.
		source := "local function f(n)\nif n == " + strconv.Itoa(depth) + " then\nlocal x\nelse\nf(n + 1) end end\nf(1)"
		stops := checkDebug(t, source, compiled(t, source), paced(0), []int{3})
		if len(stops) != 1 || len(stops[0].Frames) != min(depth+1, impl.MaxViews) {
			t.Fatalf("depth %d: %s", depth, stopsText(stops))
		}
		for i, v := range stops[0].Frames {
			want, line := strconv.Itoa(depth-i), 5
			if i == 0 {
				line = 3
			}
			if i == depth {
				want, line = "function: 22", 6
			}
			if v.Kind != 0 || v.Line != line || v.Regs[0] != want {
				t.Errorf("depth %d, frame %d: %+v", depth, i, v)
			}
		}
		// With a pcall below each.
		source = "local function f(n)\nif n == " + strconv.Itoa(depth) + " then\nlocal x\nelse\npcall(f, n + 1) end end\npcall(f, 1)"
		if depth > 90 {
			continue
		}
		stops = checkDebug(t, source, compiled(t, source), paced(0), []int{3})
		if len(stops) != 1 || len(stops[0].Frames) != min(2*depth+1, impl.MaxViews) {
			t.Fatalf("depth %d: %s", depth, stopsText(stops))
		}
		for i, v := range stops[0].Frames {
			if i%2 == 1 && (v.Kind != 1 || v.Line != 0 || v.Regs != nil) || i%2 == 0 && v.Kind != 0 {
				t.Errorf("depth %d, frame %d: %+v", depth, i, v)
			}
		}
	}
}

// At most MaxStops looks, the first ones; the run goes on behind them.
func TestDebugManyStops(t *testing.T) {
	t.Parallel()
	for _, turns := range []int{0, 1, 98, 99, 100, 101, 102, 1000} {
		source := fmt.Sprintf("for i = 1, %d do\nwrite('.') end", turns)
		chunk := compiled(t, source)
		stops := checkDebug(t, source, chunk, paced(1), []int{2})
		if len(stops) != min(turns, impl.MaxStops) {
			t.Errorf("%d turns: %d stops", turns, len(stops))
		}
		for i, s := range stops {
			if s.Frames[0].Regs[3] != strconv.Itoa(i+1) {
				t.Errorf("stop %d: %s", i, stopText(s))
			}
		}
		if _, o := impl.Debug(chunk, paced(1), []int{2}); o.Code != 0 || o.Output != times(".", turns) {
			t.Errorf("%d turns: %s", turns, outcomeText(o))
		}
		// The steps of the statement and of each turn, together with those inside.
		if stops := checkDebug(t, source, chunk, paced(1), []int{1, 2}); len(stops) != min(1+2*turns, impl.MaxStops) {
			t.Errorf("%d turns: %d stops", turns, len(stops))
		}
	}
}

// The first MaxLines lines count, also where they are the same.
func TestDebugManyLines(t *testing.T) {
	t.Parallel()
	const source = "local a = 1\nlocal b = 2\nlocal c = 3"
	const second, both = "1@2: 2(1, nil, nil)", "1@2: 2(1, nil, nil)\n1@3: 3(1, 2, nil)"
	for _, r := range []struct {
		lines []int
		want  string
	}{
		{append(many(9, 99), 2), second}, {append(many(9, 100), 2), ""}, {append(many(9, 98), 2, 3), both}, {append(many(9, 99), 2, 3), second}, {append(many(2, 99), 3), both}, {append(many(2, 100), 3), second}, {many(2, 1000), second},
		{append([]int{2}, upTo(1000)[50:]...), second}, {append(upTo(1000)[3:103], 1, 2, 3), ""}, {append(upTo(1000)[3:101], 2, 3, 1), both}, {append([]int{3, 2}, many(9, 100000)...), both},
	} {
		looked(t, source, paced(0), r.lines, r.want)
	}
}

// No look while the prelude runs; its functions, called by the program, are looked at like others.
func TestDebugPrelude(t *testing.T) {
	t.Parallel()
	for _, lines := range [][]int{upTo(100), upTo(200)[100:]} {
		looked(t, "", paced(0), lines, "")
	}
	at := func(text string) int {
		line, err := strconv.Atoi(strings.TrimSuffix(preludePlace(t, text), ": "))
		if err != nil {
			t.Fatal(err)
		}
		return line
	}
	less := at("less = less or")
	if looked(t, "local t = {1}\ntable.sort(t)", paced(0), []int{less}, fmt.Sprintf("1@%d: %d(table: 6%s) 2(table: 6, function: 20, table: 6)", less, less, times(", nil", 18))).Code != 0 {
		t.Error("sorting fails")
	}
	same := at("if v ~= nil then return i, v end")
	looked(t, "for i, v in ipairs({'a'}) do\nend", paced(0), []int{same}, strings.ReplaceAll(`
		1@S: S(table: 6, 1, a, 1, nil) 1(function: 4, table: 6, 0, nil, nil, nil)
		1@S: S(table: 6, 1, a, true, nil) 1(function: 4, table: 6, 0, nil, nil, nil)
		1@S: S(table: 6, 2, nil, 2, nil) 1(function: 4, table: 6, 1, 1, a, nil)`, "S", strconv.Itoa(same)))
}

// A look is behind the step: one that the budget hasn't is none; and ahead of the collector's turn, whatever that does.
func TestDebugAtItsTime(t *testing.T) {
	t.Parallel()
	const source = "local a = 1\nlocal b = 2\nlocal c = 3"
	for steps := 1; steps <= 5; steps++ {
		limits := paced(1)
		limits.Steps = steps
		stops := checkDebug(t, source, compiled(t, source), limits, []int{1, 2, 3})
		_, o := impl.Debug(compiled(t, source), limits, []int{1, 2, 3})
		if len(stops) != min(steps-1, 3) || (o.Code == impl.OutBudget) != (steps < 4) || o.Ticks != min(steps, 4) {
			t.Errorf("%d steps: %s\n%s", steps, stopsText(stops), outcomeText(o))
		}
	}
	// Ahead of a failure by memory.
	limits := paced(0)
	limits.Memory = impl.HeapStart
	if o := looked(t, "\nlocal x", limits, []int{2}, "1@2: 2(nil)"); o.Error != "2: not enough memory" {
		t.Errorf("%s", outcomeText(o))
	}
	// Ahead of the finalizer that is called at the same Tick.
	looked(t, "local n = 0 setmetatable({}, {__gc = function() n = n + 1 end}) local a, b, c, d\ncollectgarbage()\nlocal x\nlocal y", paced(0), []int{2, 3, 4},
		"1@2: 2(0, nil, nil, nil, nil, nil, nil)\n1@3: 3(0, nil, nil, nil, nil, builtin: collectgarbage, nil)\n1@4: 4(1, nil, nil, nil, nil, nil, nil)")
	// What the turn would free is there: with a whole cycle at each turn, the looks show nothing of it.
	for _, pace := range paces() {
		stops := checkDebug(t, "garbage", compiled(t, "for i = 1, 200 do local t = {{}}\nlocal u = t end"), paced(pace), []int{2})
		if len(stops) != 100 || stops[99].Frames[0].Regs[4] != "table: 204" {
			t.Errorf("pace %d: %d stops", pace, len(stops))
		}
	}
}

// Without a run there is no look.
func TestDebugOfNoRun(t *testing.T) {
	t.Parallel()
	chunks := unsafeChunks(t)
	chunks[-1], chunks[-2] = impl.Chunk{}, impl.Chunk{Protos: make([]impl.Proto, 1)}
	check := func(chunk impl.Chunk, limits impl.Limits, code int) {
		t.Helper()
		for _, lines := range [][]int{nil, {0}, {1}, upTo(200)} {
			if stops, o := impl.Debug(chunk, limits, lines); stops != nil || !sameOutcome(o, impl.Outcome{Code: code}) {
				t.Errorf("%+v: %d stops, %s", limits, len(stops), outcomeText(o))
			}
		}
	}
	for _, chunk := range chunks {
		check(chunk, plenty(), impl.OutChunk)
		check(chunk, impl.Limits{}, impl.OutLimits)
	}
	chunk := compiled(t, "local x write('x')")
	for _, c := range limitCases() {
		for _, n := range c.wrong {
			limits := plenty()
			c.set(&limits, n)
			check(chunk, limits, impl.OutLimits)
		}
		for _, n := range c.right {
			limits := plenty()
			c.set(&limits, n)
			checkDebug(t, "right", chunk, limits, []int{1})
		}
	}
	// Safe but for one function that isn't come to.
	chunk = compiled(t, "write('x') local function f() return 1 end")
	chunk.Protos[0].Code[1].A = 99
	check(chunk, plenty(), impl.OutChunk)
}

// Lines of steps in chunks made by hand: 0, the greatest, and those that go back.
func TestDebugAnyLines(t *testing.T) {
	t.Parallel()
	chunk := coded(t, "regs 1 line 9 dots\n0: Tick; Int 0 1\n2147483647: Tick; Int 0 2\n5: Tick; Int 0 3\n3: Tick; Return 0 1")
	for _, r := range []struct {
		lines []int
		want  string
	}{
		{[]int{0}, "1@0: 0(nil)"}, {[]int{2147483647}, "1@2147483647: 2147483647(1)"}, {[]int{2147483648, -1, 9}, ""}, {[]int{3, 5}, "1@5: 5(2)\n1@3: 3(3)"},
	} {
		stops := checkDebug(t, "by hand", chunk, paced(0), r.lines)
		if got := stopsText(stops); got != r.want {
			t.Errorf("%v: %s, not %s", r.lines, got, r.want)
		}
	}
}

// Promise 29, of chunks of texts of every kind and of chunks made at random, at lines of all sorts.
func TestDebugOfEveryChunk(t *testing.T) {
	t.Parallel()
	var chunks []impl.Chunk
	for _, source := range sourcesOfAllKinds(150) {
		if chunk, fault := impl.Compile(source); fault.Code == 0 {
			chunks = append(chunks, chunk)
		}
	}
	chance := words(20000)
	made := compiled(t, madeHead)
	for i := range 200 {
		g := grower{chance: chance[7*i : 7*i+600]}
		chunk := copyChunk(made)
		for n := range 3 {
			g.madeProto(&chunk.Protos[n])
		}
		chunks = append(chunks, safely(t, chunk))
	}
	stops := make([]int, len(chunks))
	inParallel(len(chunks), func(i int) {
		g := grower{chance: chance[3*i : 3*i+400]}
		var lines []int
		for range g.pick(130) {
			lines = append(lines, g.pick(60)-2)
		}
		if i%2 == 0 {
			lines = slices.Concat(someLines(chunks[i], i/2), lines)
		}
		stops[i] = len(checkDebug(t, fmt.Sprint(i), chunks[i], heapLimits(i), lines))
	})
	if sumOf(stops) < 10000 {
		t.Errorf("%d stops", sumOf(stops))
	}
}
