package tests

import (
	"regexp"
	"strings"
	"testing"

	"loop.example/g00002/impl"
)

// bracketed writes a text as a long bracket; the newline byte behind its opening is left out by Lex.
func bracketed(text string) string { return "[=====[\n" + text + "]=====]" }

func TestEvaluateLoadFaults(t *testing.T) {
	t.Parallel()
	for code, source := range faulty() {
		if len(source) > 30000 {
			continue
		}
		_, fault := impl.Compile(source)
		if fault.Code != code {
			t.Errorf("%s has fault %d", short(source), fault.Code)
		}
		gives(t, "local function f(...) return select('#', ...), ... end return f(load("+bracketed(source)+"))",
			"2 nil "+intLitText(fault.Line)+": fault "+intLitText(code))
	}
	const build = "local function b(i, j) if i == j then return 40000 + i .. ',' end local m = (i + j) // 2 return b(i, m) .. b(m + 1, j) end "
	eachLine(t, build, `
		load((' '):rep(32769)) => nil 1: fault 1
		type(load((' '):rep(32768))) => function
		load('x={' .. b(1, 4001) .. '}') => nil 1: fault 18
		type(load('x={' .. b(1, 3999) .. '}')) => function
		load('x={' .. ('function()end,'):rep(1000) .. '}') => nil 1: fault 19
		type(load('x={' .. ('function()end,'):rep(999) .. '}')) => function
		load(('f()'):rep(6667)) => nil 1: fault 20
		type(load(('f()'):rep(6666))) => function
		load('x = ' .. ('('):rep(197) .. '1' .. (')'):rep(197)) => nil 1: fault 8
		load('x = 1\n\ny = = 2') => nil 3: fault 7
		load('\n\ngoto a') => nil 3: fault 13
		load('@') => nil 1: fault 2
		load('\n@') => nil 2: fault 2
		load(5) => nil 1: fault 7
		load('return 5') == nil => false
		load() => ! 1: bad argument #1 to 'load' (string expected, got no value)
		load(nil) => ! 1: bad argument #1 to 'load' (string expected, got nil)
		load({}) => ! 1: bad argument #1 to 'load' (string expected, got table)
		load(print) => ! 1: bad argument #1 to 'load' (string expected, got function)
		load(true) => ! 1: bad argument #1 to 'load' (string expected, got boolean)
	`)
	if got := ran(t, "return load('x = ' .. 'y y')", plenty()); got.Made != 7+7 {
		t.Errorf("%s", outcomeText(got))
	}
}

func TestEvaluateLoadedTexts(t *testing.T) {
	t.Parallel()
	for _, r := range [][2]string{
		{"print(load('return 1, nil, \"x\"')())", "1\tnil\tx\n"},
		{"print(load('')())", "\n"},
		{"print(load('return ...')(1, nil, 3))", "1\tnil\t3\n"},
		{"print(load('local a, b = ... return b, a, select(\"#\", ...)')(1))", "nil\t1\t1\n"},
		{"load('write(\"in \") x = 5')() print(x)", "in 5\n"},
		{"local y = 1 load('y = (y or 10) + 1')() print(y, _G.y)", "1\t11\n"},
		{"z = 3 print(load('return z')(), load('local z = 4 return z')(), z)", "3\t4\t3\n"},
		{"local f = load('local n = 0 return function() n = n + 1 return n end') local a, b = f(), f() print(a(), a(), b())", "1\t2\t1\n"},
		{"local f = load('n = (n or 0) + 1 return n') print(f(), f(), n)", "1\t2\t2\n"},
		{"local f, g = load('return 1'), load('return 1') print(f == g, rawtostring(f), rawtostring(g))", "false\tfunction: 22\tfunction: 23\n"},
		{"print(load('return load(\"return load([[return 7]])()\")()')())", "7\n"},
		{"print(pcall(load('\\n\\nerror(\"e\")')))", "false\t3: e\n"},
		{"print(pcall(load('local x = nil\\nreturn x.y')))", "false\t2: attempt to index a nil value\n"},
		{"local function f() error('e', 2) end g = f print(pcall(load('\\n\\n\\ng()')))", "false\t4: e\n"},
		{"print(pcall(load('error(\"e\", 2)')))", "false\te\n"},
		{"local f = load('error(\"e\", 2)') print(pcall(function()\n\nf() end))", "false\t3: e\n"},
		{"print(select(2, load('return =')), select(2, load('break')))", "1: fault 7\t1: fault 11\n"},
		{"local f = load('local a <close> = ... write(\"in \")') f(setmetatable({}, {__close = function() write('closed') end}))", "in closed"},
		{"local co = coroutine.wrap(load('local n = ... while true do n = n + coroutine.yield(n) end')) print(co(1), co(2), co(3))", "1\t3\t6\n"},
		{"local t = setmetatable({}, {__index = load('local t, k = ... return k .. k')}) print(t.ab)", "abab\n"},
		{"for i = 1, 3 do write(load('return ' .. i .. ' * ' .. i)(), ' ') end", "1 4 9 "},
		{"f = 1 load('local f = 2 function g() return f end')() print(f, g())", "1\t2\n"},
		{"load('goto a ::a:: for i = 1, 2 do write(i) end while true do break end')()", "12"},
		{"print(load('return _G == ...')(_G))", "true\n"},
	} {
		puts(t, r[0], r[1])
	}
}

// alone are texts of all sorts; what is told of them has no number of an object.
var alone = []string{
	"", "return 1, nil, 'x', 2.5", "write('a') write('b', 1) return", "error('e')", "error('e', 0)", "\n\nerror('e', 2)", "local x = nil\nreturn x.y", "return #{1, 2, 3}",
	"local t = {} for i = 1, 10 do t[i] = i * i end return table.concat(t, ',')", "local s = '' for i = 1, 20 do s = s .. i end return s",
	"local function f(n) if n < 2 then return n end return f(n - 1) + f(n - 2) end return f(12)", "x = 1 y = 2 return x, y, _G.x", "return ...", "return select('#', ...)",
	"local co = coroutine.wrap(function() for i = 1, 3 do coroutine.yield(i) end end) for i in co do write(i) end",
	"local a <close> = setmetatable({}, {__close = function(o, e) write('closed ', rawtostring(e)) end}) error('e', 0)",
	"return pcall(function() local t = setmetatable({}, {__index = function(t, k) error('no ' .. k, 2) end})\nreturn t.x end)", "while true do end", "while true do write('x') end",
	"local s = ('x'):rep(60000) while true do s = s .. '' end", "local function f() return f() end return f()", "local function f() return 1 + f() end return f()",
	"goto a ::b:: do return 'b' end ::a:: goto b", "local t = {3, 1, 2} table.sort(t) return table.unpack(t)", "return ('hello world'):gsub('o', '0')", "return load('return 1 +')",
	"return load('local a = ... return a * 2')(21)", "for k, v in pairs({a = 1, b = 2, 10, 20}) do write(rawtostring(k), '=', v, ' ') end", "return coroutine.isyieldable(), coroutine.status((coroutine.running()))",
	"return string.format('%5.2f|%-5d|%s', 3.14159, 42, 'x')", "coroutine.yield()", "return pcall(pcall, error, 'e', 3)", "print(1, 2.0, nil, true, 'x')",
}

// Promise 30: a text loaded by a program and called does what it does by itself.
func TestEvaluateLoadedAsAlone(t *testing.T) {
	t.Parallel()
	for _, source := range append(alone, modestTexts(300)...) {
		checkLoaded(t, source)
	}
}

// unnumber takes the numbers of functions out of an outcome: the loaded text's own is one more.
func unnumber(o *impl.Outcome) {
	number := regexp.MustCompile(`function: \d+`)
	o.Error = number.ReplaceAllString(o.Error, "function")
	for i, result := range o.Results {
		o.Results[i] = number.ReplaceAllString(result, "function")
	}
}

// checkLoaded runs a text by itself and loaded, where it has two steps and its own bytes more.
func checkLoaded(t *testing.T, source string) {
	t.Helper()
	limits := plenty()
	limits.Steps, limits.Output = 5000, 3000
	want := impl.Evaluate(source, limits)
	if want.Made+len(source) > impl.MaxMade && want.Code != impl.OutMade || strings.Contains(source, "]=====]") {
		return
	}
	limits.Steps += 2
	got := impl.Evaluate("return load("+bracketed(source)+")()", limits)
	if want.Code == impl.OutMade {
		got.Made, got.Ticks, got.Output = want.Made, want.Ticks, want.Output
	} else {
		got.Made -= len(source)
		got.Ticks -= 2
	}
	unnumber(&got)
	unnumber(&want)
	if !sameOutcome(got, want) {
		t.Errorf("%s\nloaded: %s\nalone: %s", source, outcomeText(got), outcomeText(want))
	}
}
