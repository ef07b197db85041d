package tests

import (
	"fmt"
	"slices"
	"strings"
	"testing"

	"loop.example/g00002/impl"
)

// row is a text of a session and what is told of it, as toldShort has it.
type row = [2]string

// sessionTells holds the texts of a session against what is told of each, at each pace, run and evaluated.
func sessionTells(t *testing.T, rows ...row) {
	t.Helper()
	for _, pace := range paces() {
		sessionTellsWith(t, paced(pace), rows...)
	}
}

func sessionTellsWith(t *testing.T, limits impl.Limits, rows ...row) {
	t.Helper()
	var inputs []string
	for _, r := range rows {
		inputs = append(inputs, r[0])
	}
	ran := checkSession(t, inputs, limits)
	evaluated := impl.EvaluateAll(inputs, limits)
	for i, r := range rows {
		if got := toldShort(ran[i]); got != r[1] {
			t.Errorf("with %+v\n%s\ntext %d: %s, not %s", limits, textsText(inputs), i, got, r[1])
		}
		if hangs := slices.ContainsFunc(inputs, hangsOnCollector); limits.Memory == 0 && !hangs && toldShort(evaluated[i]) != r[1] {
			t.Errorf("with %+v\n%s\ntext %d, evaluated: %s, not %s", limits, textsText(inputs), i, toldShort(evaluated[i]), r[1])
		}
	}
}

// bothTell are Session and EvaluateAll.
func bothTell(inputs []string, limits impl.Limits) [][]impl.Outcome {
	return [][]impl.Outcome{impl.Session(inputs, limits), impl.EvaluateAll(inputs, limits)}
}

func TestSessionLimits(t *testing.T) {
	t.Parallel()
	wrong := []impl.Outcome{{Code: impl.OutLimits}}
	lists := [][]string{nil, {}, {""}, {"x ="}, {"write('x')", "x =", "return 1"}, many("", impl.MaxInputs), many("", impl.MaxInputs+1), many("x =", 1000)}
	check := func(limits impl.Limits) {
		t.Helper()
		for _, inputs := range lists {
			for _, told := range bothTell(inputs, limits) {
				if !sameOutcomes(told, wrong) {
					t.Errorf("%d texts with %+v: %s", len(inputs), limits, outcomesText(told))
				}
			}
		}
	}
	for _, c := range limitCases() {
		for _, n := range c.wrong {
			limits := plenty()
			c.set(&limits, n)
			check(limits)
		}
		for _, n := range c.right {
			limits := plenty()
			c.set(&limits, n)
			checkSession(t, []string{"", "x =", ""}, limits)
		}
	}
	check(impl.Limits{})
	checkSession(t, []string{"", "", "x"}, impl.Limits{Steps: 1, Frames: 1})
}

func TestSessionNumberOfTexts(t *testing.T) {
	t.Parallel()
	for _, count := range []int{0, 1, 2, 50, impl.MaxInputs - 1, impl.MaxInputs} {
		inputs := many("n = (n or 0) + 1 return n", count)
		ran := checkSession(t, inputs, paced(1))
		if len(ran) != count {
			t.Fatalf("%d outcomes of %d texts", len(ran), count)
		}
		for _, told := range bothTell(inputs, paced(0)) {
			for i, o := range told {
				if o.Code != 0 || o.Ticks != 3 || len(o.Results) != 1 || o.Results[0] != fmt.Sprint(i+1) {
					t.Errorf("text %d: %s", i, outcomeText(o))
				}
			}
		}
	}
	for _, count := range []int{impl.MaxInputs + 1, impl.MaxInputs + 2, 1000} {
		for _, source := range []string{"", "x =", "while true do end"} {
			for _, told := range bothTell(many(source, count), paced(1)) {
				if !sameOutcomes(told, []impl.Outcome{{Code: impl.OutLimits}}) {
					t.Errorf("%d texts: %s", count, outcomesText(told))
				}
			}
		}
	}
}

// Every field of each outcome, told by hand: numbers of objects, Live and Bytes go on, all else begins anew.
func TestSessionTells(t *testing.T) {
	t.Parallel()
	check := func(limits impl.Limits, inputs []string, want ...impl.Outcome) {
		t.Helper()
		if got := checkSession(t, inputs, limits); !sameOutcomes(got, want) {
			t.Errorf("%s\n%s\nnot\n%s", textsText(inputs), outcomesText(got), outcomesText(want))
		}
		for i := range want {
			want[i].Live, want[i].Bytes = 0, 0
		}
		if got := impl.EvaluateAll(inputs, limits); !sameOutcomes(got, want) {
			t.Errorf("%s\nevaluated:\n%s\nnot\n%s", textsText(inputs), outcomesText(got), outcomesText(want))
		}
	}
	const live, bytes = firstLive, firstBytes
	check(paced(0), nil)
	check(paced(0), []string{""}, impl.Outcome{Ticks: 1, Live: live, Bytes: bytes})
	// The closure of each text is an object.
	check(paced(0), []string{"", "", ""}, impl.Outcome{Ticks: 1, Live: live, Bytes: bytes}, impl.Outcome{Ticks: 1, Live: live + 1, Bytes: bytes + 40}, impl.Outcome{Ticks: 1, Live: live + 2, Bytes: bytes + 80})
	check(paced(0), []string{"x ="}, impl.Outcome{Code: impl.OutFault, Fault: impl.Fault{Code: impl.FaultToken, Line: 1, At: 3}})
	// A text with a fault makes none.
	check(paced(0), []string{"", "\n@", "return {}, function() end", "break", "return {}, function() end"},
		impl.Outcome{Ticks: 1, Live: live, Bytes: bytes},
		impl.Outcome{Code: impl.OutFault, Fault: impl.Fault{Code: impl.FaultByte, Line: 2, At: 1}},
		impl.Outcome{Ticks: 2, Results: []string{"table: 6", "function: 23"}, Live: live + 3, Bytes: bytes + 120},
		impl.Outcome{Code: impl.OutFault, Fault: impl.Fault{Code: impl.FaultBreak, Line: 1}},
		impl.Outcome{Ticks: 2, Results: []string{"table: 7", "function: 25"}, Live: live + 6, Bytes: bytes + 240})
	limits := paced(0)
	limits.Steps, limits.Output = 50, 6
	check(limits, []string{"write('abcdef') local s = 'x' .. 'y' x = 1", "write('ghi') write('jkl') local s = ('z'):rep(10) error('e')", "write('m') return x, 'a' .. 'b'", "\nerror({})"},
		impl.Outcome{Output: "abcdef", Ticks: 4, Made: 2, Live: live, Bytes: bytes + 40},
		impl.Outcome{Code: impl.OutError, Output: "ghijkl", Error: "1: e", Ticks: 5, Made: 10, Live: live + 1, Bytes: bytes + 80},
		impl.Outcome{Output: "m", Results: []string{"1", "ab"}, Ticks: 3, Made: 2, Live: live + 2, Bytes: bytes + 120},
		impl.Outcome{Code: impl.OutError, Error: "table: 6", Ticks: 2, Live: live + 4, Bytes: bytes + 200})
	// Each may take all of the steps and put out all of the bytes, again and again.
	limits.Steps = 6
	check(limits, []string{"for i = 1, 4 do end write", "for i = 1, 4 do end", "write('abcdef')", "write('ghijkl')", "for i = 1, 5 do end", "", "x ="},
		impl.Outcome{Code: impl.OutFault, Fault: impl.Fault{Code: impl.FaultToken, Line: 1, At: 25}},
		impl.Outcome{Ticks: 6, Live: live, Bytes: bytes},
		impl.Outcome{Output: "abcdef", Ticks: 2, Live: live + 1, Bytes: bytes + 40},
		impl.Outcome{Output: "ghijkl", Ticks: 2, Live: live + 2, Bytes: bytes + 80},
		impl.Outcome{Code: impl.OutBudget, Ticks: 6, Live: live + 3, Bytes: bytes + 120},
		impl.Outcome{Code: impl.OutEnded},
		impl.Outcome{Code: impl.OutFault, Fault: impl.Fault{Code: impl.FaultToken, Line: 1, At: 3}})
	// So with made bytes.
	const most = "local s = ('x'):rep(50000) for i = 1, 39 do local r = s .. '' end"
	check(paced(0), []string{most, most, most + " s = 'a' .. ''", most},
		impl.Outcome{Ticks: 81, Made: impl.MaxMade, Live: live, Bytes: bytes}, impl.Outcome{Ticks: 81, Made: impl.MaxMade, Live: live + 1, Bytes: bytes + 40},
		impl.Outcome{Code: impl.OutMade, Ticks: 82, Made: impl.MaxMade + 1, Live: live + 2, Bytes: bytes + 80}, impl.Outcome{Code: impl.OutEnded})
}

// What one text leaves, a later one uses.
func TestSessionLeavesThings(t *testing.T) {
	t.Parallel()
	sessionTells(t, row{"x = 1 y, z = 'a', {5}", "="}, row{"x = x + 1 return x, y, z[1]", "= 2 a 5"}, row{"y = nil return x, y", "= 2 nil"}, row{"local x = 9 return x, _G.x", "= 9 2"}, row{"return x", "= 2"})
	sessionTells(t, row{"function f(n) if n < 2 then return n end return f(n - 1) + f(n - 2) end", "="}, row{"return f(10)", "= 55"}, row{"local g = f function f() return 'new' end return g(3), f()", "! 1: attempt to do arithmetic on a string value"}, row{"return f(10)", "= new"})
	// Locals are gone; what closures have of them isn't.
	sessionTells(t, row{"local n = 0 function count() n = n + 1 return n end function reset(v) n = v end", "="}, row{"return n, count(), count()", "= nil 1 2"}, row{"reset(10) error('e')", "! 1: e"}, row{"return count()", "= 11"}, row{"local n = 5 return count(), n", "= 12 5"})
	sessionTells(t, row{"t = {} for i = 1, 3 do t[i] = function(v) i = i + (v or 0) return i end end", "="}, row{"return t[1](5), t[2](), t[3](1)", "= 6 2 4"}, row{"return t[1](), t[2](1), t[3]()", "= 6 3 4"})
	// Metatables.
	sessionTells(t, row{"P = {} P.__index = P P.__add = function(a, b) return new(a.v + b.v) end P.__tostring = function(p) return 'P' .. p.v end function new(v) return setmetatable({v = v}, P) end function P:twice() return self + self end", "="},
		row{"a = new(3) b = a:twice() print(a, b)", "P3\tP6\n ="}, row{"P.__tostring = nil return tostring(b), b.v", "= table: 8 6"}, row{"P.__eq = function() return true end return a == b, rawequal(a, b)", "= true false"}, row{"setmetatable(a, nil) return a.twice, b.v", "= nil 6"})
	// The library, changed.
	sessionTells(t, row{"local old = print function print(...) write('> ') old(...) end string.shout = function(s) return s:upper() .. '!' end", "="}, row{"print(('hi'):shout())", "> HI!\n ="}, row{"string = nil return ('x'):rep(3), string", "= xxx nil"}, row{"local w = write write = nil w('y') print('z')", "y ! 1: attempt to call a nil value"}, row{"write('z')", "! 1: attempt to call a nil value"})
	// Texts that are loaded.
	sessionTells(t, row{"f = load('k = (k or 0) + 1 return k, ...')", "="}, row{"return f('a')", "= 1 a"}, row{"return f('b'), k", "= 2 2"}, row{"return load('return k +')", "= nil 1: fault 7"}, row{"return f()", "= 3"})
	// Each text gets no arguments.
	sessionTells(t, row{"return select('#', ...), ...", "= 0"}, row{"x = {...} return #x", "= 0"})
	// Keys of tables keep their order.
	sessionTells(t, row{"t = {} t.b = 1 t.a = 2", "="}, row{"t.c = 3 t.b = nil", "="}, row{"t.b = 4 for k, v in pairs(t) do write(k, v, ' ') end", "b4 a2 c3  ="}, row{"i = next(t)", "="}, row{"return next(t, i)", "= a 2"})
}

// Coroutines that are waiting.
func TestSessionThreads(t *testing.T) {
	t.Parallel()
	sessionTells(t, row{"co = coroutine.create(function(a) local n = a while true do n = n + coroutine.yield(n) end end) return coroutine.resume(co, 1)", "= true 1"}, row{"return coroutine.resume(co, 5)", "= true 6"},
		row{"return coroutine.status(co), coroutine.resume(co, 'x')", "= suspended false 1: attempt to do arithmetic on a string value"}, row{"return coroutine.status(co), coroutine.resume(co)", "= dead false cannot resume a dead coroutine"})
	sessionTells(t, row{"g = coroutine.wrap(function() for i = 1, 3 do coroutine.yield(i) end return 'end' end)", "="}, row{"return g(), g()", "= 1 2"}, row{"for v in g do write(v, ' ') if v == 'end' then break end end", "3 end  ="}, row{"return g()", "! cannot resume a dead coroutine"}, row{"return pcall(g)", "= false cannot resume a dead coroutine"})
	// One that waits in a protected call, in closing, in another coroutine's body, in a metatable's function, in a loop.
	sessionTells(t, row{closer + "co = coroutine.create(function() local a <close> = c('a') print(pcall(function() local b <close> = c('b') coroutine.yield('in') error('e', 0) end)) return 'out' end) return coroutine.resume(co)", "= true in"},
		row{"return coroutine.resume(co)", "b(e) false\te\na(nil)  = true out"}, row{"return coroutine.status(co)", "= dead"})
	sessionTells(t, row{closer + "co = coroutine.create(function() local a <close> = c('a', function() coroutine.yield('closing') end) return 'r' end) return coroutine.resume(co)", "a(nil)  = true closing"}, row{"error('between')", "! 1: between"}, row{"return coroutine.resume(co)", "= true r"})
	sessionTells(t, row{"co = coroutine.wrap(function() local m = setmetatable({}, {__index = function(t, k) return coroutine.yield(k) end, __add = function(a, b) return coroutine.yield('add') end}) return m.x, m + 1 end) return co()", "= x"}, row{"return co(7)", "= add"}, row{"return co(8)", "= 7 8"})
	// Closed by a later text, while what it has to close uses globals that have come meanwhile.
	sessionTells(t, row{closer + "co = coroutine.create(function() local a <close> = c('a', function() after() end) coroutine.yield() end) coroutine.resume(co)", "="}, row{"function after() write('after ') end", "="}, row{"return coroutine.close(co)", "a(nil) after  = true"}, row{"return coroutine.close(co), coroutine.status(co)", "= true dead"})
	sessionTells(t, row{closer + "co = coroutine.create(function() local a <close> = c('a', function() after() end) coroutine.yield() end) coroutine.resume(co)", "="}, row{"return coroutine.close(co)", "a(nil)  = false 1: attempt to call a nil value"})
	// The main thread is the same in all texts, and no other can resume it.
	sessionTells(t, row{"main = coroutine.running() return main, coroutine.running()", "= thread: 1 thread: 1 true"}, row{"return main == coroutine.running(), coroutine.status(main), coroutine.isyieldable()", "= true running false"}, row{"return coroutine.wrap(function() return coroutine.resume(main), coroutine.status(main) end)()", "= false normal"},
		row{"coroutine.yield(1)", "! 1: attempt to yield outside of a coroutine"}, row{"return coroutine.running()", "= thread: 1 true"}, row{"return coroutine.create(print)", "= thread: 3"})
	// One that is left running a text's error: it is dead, others wait on.
	sessionTells(t, row{"a = coroutine.create(function() coroutine.yield(1) return 2 end) coroutine.resume(a) b = coroutine.wrap(function() coroutine.resume(a) error('in b') end) b()", "! 1: in b"}, row{"return coroutine.status(a)", "= dead"}, row{"return pcall(b)", "= false cannot resume a dead coroutine"})
	// Very many that wait, and are gone on with.
	sessionTells(t, row{"t = {} for i = 1, 300 do t[i] = coroutine.wrap(function() local n = i while true do coroutine.yield(n) n = n + 1 end end) t[i]() end", "="}, row{"local n = 0 for i = 1, 300 do n = n + t[i]() end return n", "= 45450"}, row{"t = nil", "="}, row{"return 'end'", "= end"})
	// As many inside each other as there may be, again in each text.
	const go100 = "local function go(n) if n == 0 then return 'end' end local ok, v = coroutine.resume(coroutine.create(go), n - 1) return v end return go(100), go(101)"
	sessionTells(t, row{go100, "= end too many coroutines inside each other"}, row{go100, "= end too many coroutines inside each other"})
}

// An error ends just its own text: all that was to be closed has been closed, and nothing of its calls is left.
func TestSessionErrors(t *testing.T) {
	t.Parallel()
	const ahead = closer + "C = c function F(k) return c(k, function() error(k .. '!', 0) end) end"
	sessionTells(t, row{ahead, "="}, row{"local a <close> = C('a') local function f() local b <close> = C('b') error('e', 0) end x = 1 f() x = 2", "b(e) a(e)  ! e"}, row{"return x", "= 1"},
		row{"local a <close> = C('a') local b <close> = F('b') error('e', 0)", "b(e) a(b!)  ! b!"}, row{"local a <close> = F('a') return 1", "a(nil)  ! a!"}, row{"local a <close> = C('a') return 1", "a(nil)  = 1"})
	sessionTells(t, row{ahead, "="}, row{"return pcall(function() local a <close> = C('a') error('e', 0) end)", "a(e)  = false e"}, row{"coroutine.wrap(function() local a <close> = C('a') error('e', 0) end)()", "a(e)  ! e"}, row{"local a <close> = C('a') coroutine.wrap(function() error('in', 0) end)()", "a(in)  ! in"})
	sessionTells(t, row{"error()", "! nil"}, row{"error({})", "! table: 6"}, row{"error(print)", "! function: 3"}, row{"error('x', 2)", "! x"}, row{"\n\nerror('x')", "! 3: x"}, row{"local x = nil .. 1", "! 1: attempt to concatenate a nil value"}, row{"return 1", "= 1"})
	// As many frames as there may be, in each text anew; levels of the text ahead are gone.
	limits := paced(1)
	limits.Frames = 12
	deep := row{"local n = 0 local function f() n = n + 1 N = n return 1 + f() end f()", "! 1: stack overflow"}
	sessionTellsWith(t, limits, deep, row{"return N", "= 11"}, deep, row{"return N", "= 11"}, row{"local n = 0 local function f() n = n + 1 return pcall(f) end f() return n", "= 6"}, deep, row{"return N", "= 11"})
	sessionTells(t, row{"function up(n) error('e', n) end", "="}, row{"\nup(1)", "! 1: e"}, row{"\nup(2)", "! 2: e"}, row{"\nup(3)", "! e"}, row{"\nlocal function g()\nup(3) end g()", "! 3: e"})
	// A function of another text has the lines of its own.
	sessionTells(t, row{"\n\nfunction f(x)\nreturn x.y end", "="}, row{"f()", "! 4: attempt to index a nil value"}, row{"return pcall(f, {y = 1})", "= true 1"}, row{"return pcall(f)", "= false 4: attempt to index a nil value"})
	// Out of a metatable's function, a comparison of sorting, a loop, a loaded text.
	sessionTells(t, row{"m = setmetatable({}, {__index = function(t, k) error('no ' .. k, 0) end})", "="}, row{"return m.x", "! no x"}, row{"t = {3, 1, 2} table.sort(t, function() error('s', 0) end)", "! s"}, row{"return table.concat(t, ' ')", "= 3 1 2"}, row{"for i = 1, 3 do k = i if i == 2 then error('l', 0) end end", "! l"}, row{"return k", "= 2"}, row{"load('k = 7 error(\"in\", 0)')()", "! in"}, row{"return k", "= 7"})
}

// Faults ahead of, between and behind others: they change nothing.
func TestSessionFaults(t *testing.T) {
	t.Parallel()
	fault := row{"x = = 1", "code 1"}
	sessionTells(t, fault, row{"x = 1", "="}, fault, row{"x = x + 1 return x", "= 2"}, fault, fault, row{"return x, {}, function() end", "= 2 table: 6 function: 24"}, fault)
	sessionTells(t, fault, fault, fault)
	// Each kind of fault, at each place.
	for code, source := range faulty() {
		inputs := []string{source, "x = (x or 0) + 1 return x", source, "x = x + 1 return x", source}
		for _, told := range bothTell(inputs, paced(1)) {
			_, fault := impl.Compile(source)
			want := impl.Outcome{Code: impl.OutFault, Fault: fault}
			if fault.Code != code || len(told) != 5 || !sameOutcome(told[0], want) || !sameOutcome(told[2], want) || !sameOutcome(told[4], want) || toldShort(told[1]) != "= 1" || toldShort(told[3]) != "= 2" {
				t.Errorf("%s: %s", short(source), outcomesText(told))
			}
		}
	}
}

// An end by Code 3, 4 or 5 at each place: just what was told ahead of it stays.
func TestSessionEnds(t *testing.T) {
	t.Parallel()
	plain := []row{{"x = 1 write('a')", "a ="}, {"x = x + 1 write('b') return x", "b = 2"}, {"y = = 1", "code 1"}, {"error('e')", "! 1: e"}, {"return x", "= 2"}}
	for code, source := range map[int]string{
		impl.OutBudget: "write('in ') while true do end", impl.OutMade: "write('in ') local s = ('x'):rep(60000) while true do s = s .. '' end", impl.OutOutput: "write('in ') write(('x'):rep(100))",
	} {
		for wrapping, wrap := range wraps() {
			limits := paced(1)
			limits.Steps, limits.Output = 900, 50
			for at := range len(plain) + 1 {
				if at != len(wrap)%(len(plain)+1) && wrapping != "plain" && wrapping != "guarded" {
					continue
				}
				rows := slices.Clone(plain)
				rows = slices.Insert(rows, at, row{strings.ReplaceAll(wrap, "S", source), fmt.Sprintf("in  code %d", code)})
				for i := range rows[at+1:] {
					if r := &rows[at+1+i]; r[1] != "code 1" {
						r[1] = "code 8"
					}
				}
				sessionTellsWith(t, limits, rows...)
			}
		}
	}
	// Outcomes of those behind tell nothing else.
	inputs := []string{"while true do end", "write('x') return 1", "break", "", "x ="}
	for _, told := range bothTell(inputs, paced(1)) {
		want := []impl.Outcome{told[0], {Code: impl.OutEnded}, {Code: impl.OutFault, Fault: impl.Fault{Code: impl.FaultBreak, Line: 1}}, {Code: impl.OutEnded}, {Code: impl.OutFault, Fault: impl.Fault{Code: impl.FaultToken, Line: 1, At: 3}}}
		if told[0].Code != impl.OutBudget || !sameOutcomes(told, want) {
			t.Errorf("%s", outcomesText(told))
		}
	}
	// What nothing can catch isn't caught by what an earlier text has left.
	limits := paced(0)
	limits.Steps = 200
	sessionTellsWith(t, limits, row{closer + "guard = pcall C = c", "="}, row{"local a <close> = C('a') guard(function() while true do end end)", "code 3"}, row{"return 1", "code 8"})
	// Errors of Code 2 are no end, however many.
	sessionTellsWith(t, limits, slices.Repeat([]row{{"error('e', 0)", "! e"}}, 20)...)
}

// The collector goes on from text to text.
func TestSessionCollector(t *testing.T) {
	t.Parallel()
	// A whole collection frees the closures of the texts ahead, and that of the prelude's.
	got := checkSession(t, []string{"", "", "x = {{}}", "collectgarbage()", "x = nil collectgarbage()", "return collectgarbage('count')"}, paced(0))
	for i, want := range []struct{ live, bytes int }{
		{firstLive, firstBytes}, {firstLive + 1, firstBytes + 40}, {firstLive + 4, firstBytes + 80 + 40 + 80 + 40}, {firstLive + 1, firstBytes - 40 + 40 + 80 + 40}, {firstLive - 1, firstBytes - 40 + 40}, {firstLive, firstBytes + 40},
	} {
		if got[i].Live != want.live || got[i].Bytes != want.bytes {
			t.Errorf("text %d: %s, not %d and %d", i, outcomeText(got[i]), want.live, want.bytes)
		}
	}
	// A cycle that a text begins is ended by a later one.
	sessionTellsWith(t, paced(0), row{"return collectgarbage('step', 1)", "= false"}, row{"return collectgarbage('step', 20)", "= false"}, row{"return collectgarbage('step', 1000000)", "= true"}, row{"return collectgarbage('step', 1)", "= false"}, row{"collectgarbage() return collectgarbage('step', 1000000)", "= true"})
	// What a text has stopped stays so until one restarts it.
	const garbage = "for i = 1, 300 do local t = {{}, {}} end"
	for _, pace := range []int{1, 10, 100} {
		told := checkSession(t, []string{garbage, "collectgarbage('stop')", garbage, garbage, "collectgarbage('restart')", garbage}, paced(pace))
		if grown := told[3].Live - told[2].Live; grown != 901 {
			t.Errorf("pace %d: %d objects more", pace, grown)
		}
		if told[0].Live > firstLive+700 || told[5].Live >= told[3].Live {
			t.Errorf("pace %d: %s", pace, outcomesText(told))
		}
	}
	// Finalizers that one text leaves are called in a later one, also while that ends by an error.
	sessionTellsWith(t, paced(0), row{finals + "f('a') f('b')", "="}, row{"collectgarbage()", "="}, row{"write('-') write('-')", "b-a- ="}, row{"write('-')", "- ="})
	sessionTellsWith(t, paced(0), row{finals + "f('a') f('b') f('c') F = f", "="}, row{"collectgarbage() error('e', 0)", "c ! e"}, row{"error('e', 0)", "b ! e"}, row{"", "="}, row{"F('d', function() error('dropped') end) collectgarbage() write('-')", "ad- ="}, row{"write('-')", "- ="})
	sessionTellsWith(t, paced(0), row{finals + "f('a', function(o) kept = o end)", "="}, row{"collectgarbage()", "="}, row{"return type(kept)", "a = table"}, row{"kept = nil collectgarbage() write('-')", "- ="})
	// In a thread that an earlier text has left waiting.
	sessionTellsWith(t, paced(0), row{finals + "f('a', function() write(rawtostring((coroutine.running())), ' ') end) co = coroutine.wrap(function() while true do coroutine.yield() write('co ') end end) co()", "="}, row{"collectgarbage() co()", "athread: 1 co  ="})
	// Weak tables.
	sessionTellsWith(t, paced(0), row{"w = setmetatable({}, {__mode = 'v'}) w[1] = {} w[2] = {} keep = w[2]", "="}, row{"collectgarbage() return w[1], w[2]", "= nil table: 9"}, row{"keep = nil collectgarbage() return w[2]", "= nil"})
	// Threads that wait hold what they have; those that nothing holds go.
	told := checkSession(t, []string{"co = coroutine.create(function() local t = {{}, {}} coroutine.yield() return #t end) coroutine.resume(co)", "collectgarbage()", "co = nil collectgarbage()", "collectgarbage()"}, paced(0))
	if told[1].Live != firstLive-1+1+1+3 || told[2].Live != firstLive-1 {
		t.Errorf("%s", outcomesText(told))
	}
}

// Under a memory limit what a text leaves counts for the later ones.
func TestSessionMemory(t *testing.T) {
	t.Parallel()
	const fill = "for i = 1, 1000 do\nt[i] = {} end"
	for _, pace := range paces() {
		limits := paced(pace)
		limits.Memory = 12000
		sessionTellsWith(t, limits, row{"local t = {} " + fill, "! 1: not enough memory"}, row{"return 'on'", "= on"}, row{"for i = 1, 1000 do local t = {{}} end return 'freed'", "= freed"}, row{"return pcall(function() local t = {} " + fill + " end)", "= false 1: not enough memory"},
			row{"t = {} " + fill, "! 1: not enough memory"}, row{"return 'no'", "! 1: not enough memory"}, row{"\nt = nil", "! 2: not enough memory"}, row{"x =", "code 1"}, row{"", "="})
		limits.Memory = impl.HeapStart
		sessionTellsWith(t, limits, row{"", "="}, row{"x = 1", "! 1: not enough memory"}, row{"return", "! 1: not enough memory"}, row{"", "="})
	}
}
