package tests

import (
	"strings"
	"testing"
)

// eachFor holds loops of numbers against their turns: a line has start, limit and perhaps step, =>, and the values of the
// turns, or behind ! the message.
func eachFor(t *testing.T, lines string) {
	t.Helper()
	for _, line := range strings.Split(strings.TrimSpace(lines), "\n") {
		three, want, found := strings.Cut(line, "=>")
		if !found {
			t.Fatalf("no arrow in %q", line)
		}
		want = strings.TrimSpace(want)
		source := "local n = 0 for i = " + strings.TrimSpace(three) + " do n = n + 1 write(i, ' ') if n == 6 then write('.. ') break end end"
		if message, isError := strings.CutPrefix(want, "!"); isError {
			fails(t, source, "1: "+strings.TrimSpace(message))
			continue
		}
		if want != "" {
			want += " "
		}
		puts(t, source, want)
	}
}

func TestEvaluateForOfIntegers(t *testing.T) {
	t.Parallel()
	eachFor(t, `
		1, 3 => 1 2 3
		1, 1 => 1
		1, 0 =>
		3, 1 =>
		3, 1, -1 => 3 2 1
		1, 3, -1 =>
		1, 1, -1 => 1
		1, 10, 4 => 1 5 9
		10, 1, -4 => 10 6 2
		1, 9, 4 => 1 5 9
		-3, -1 => -3 -2 -1
		0, 100 => 0 1 2 3 4 5 ..
		math.maxinteger - 2, math.maxinteger => 9223372036854775805 9223372036854775806 9223372036854775807
		math.maxinteger, math.maxinteger => 9223372036854775807
		math.maxinteger, math.maxinteger, math.maxinteger => 9223372036854775807
		math.maxinteger - 1, math.maxinteger, 2 => 9223372036854775806
		math.mininteger + 2, math.mininteger, -1 => -9223372036854775806 -9223372036854775807 -9223372036854775808
		math.mininteger, math.mininteger, -1 => -9223372036854775808
		math.mininteger + 1, math.mininteger, -2 => -9223372036854775807
		math.mininteger, math.maxinteger, math.maxinteger => -9223372036854775808 -1 9223372036854775806
		math.maxinteger, math.mininteger, math.mininteger => 9223372036854775807 -1
		math.mininteger, math.maxinteger, math.mininteger =>
		0, math.mininteger, math.mininteger => 0 -9223372036854775808
		-1, math.mininteger, math.mininteger => -1
		0, math.maxinteger, math.maxinteger => 0 9223372036854775807
		1, math.maxinteger, math.maxinteger => 1
		math.maxinteger, math.mininteger => 
		math.mininteger, math.maxinteger, -1 => 
		math.mininteger, math.maxinteger => -9223372036854775808 -9223372036854775807 -9223372036854775806 -9223372036854775805 -9223372036854775804 -9223372036854775803 ..
		math.maxinteger, math.mininteger, -1 => 9223372036854775807 9223372036854775806 9223372036854775805 9223372036854775804 9223372036854775803 9223372036854775802 ..
	`)
}

func TestEvaluateForOfFloatLimits(t *testing.T) {
	t.Parallel()
	eachFor(t, `
		1, 3.0 => 1 2 3
		1, 2.5 => 1 2
		1, 2.999 => 1 2
		1, 0.9 =>
		1, 1.0 => 1
		3, 1.5, -1 => 3 2
		3, 1.0, -1 => 3 2 1
		-1, -1.5, -1 => -1
		-1, -2.5, -1 => -1 -2
		-2, -0.5 => -2 -1
		1, math.huge => 1 2 3 4 5 6 ..
		1, -math.huge =>
		1, math.huge, -1 =>
		1, -math.huge, -1 => 1 0 -1 -2 -3 -4 ..
		1, 0/0 =>
		1, 0/0, -1 =>
		math.maxinteger, math.huge => 9223372036854775807
		math.maxinteger - 1, 2^63 => 9223372036854775806 9223372036854775807
		math.maxinteger, 2^63 => 9223372036854775807
		math.maxinteger, 2^63 - 1024 =>
		math.maxinteger, 9223372036854775806.0 => 9223372036854775807
		math.mininteger, -math.huge, -1 => -9223372036854775808
		math.mininteger + 1, -2^63, -1 => -9223372036854775807 -9223372036854775808
		math.mininteger, -2^63 => -9223372036854775808
		math.mininteger, -2.0^64, -1 => -9223372036854775808
		math.mininteger, -2.0^64 =>
		9007199254740992, 9007199254740993.0 => 9007199254740992
		9007199254740993, 9007199254740992.0 =>
		9007199254740993, 9007199254740992.0, -1 => 9007199254740993 9007199254740992
		0, 1e300, math.maxinteger => 0 9223372036854775807
		0, -1e300, math.mininteger => 0 -9223372036854775808
	`)
}

func TestEvaluateForOfFloats(t *testing.T) {
	t.Parallel()
	eachFor(t, `
		1.0, 3 => 1.0 2.0 3.0
		1, 3, 1.0 => 1.0 2.0 3.0
		1, 2, 0.5 => 1.0 1.5 2.0
		1, 2, 0.4 => 1.0 1.4 1.7999999999999998
		1.5, 3 => 1.5 2.5
		2, 1, -0.5 => 2.0 1.5 1.0
		2.0, 1, -1 => 2.0 1.0
		1.0, 0 =>
		0.0, 0 => 0.0
		-0.0, 0.0 => -0.0
		1, 2, math.huge => 1.0
		2, 1, -math.huge => 2.0
		-math.huge, 1, math.huge => -inf
		math.huge, math.huge, 1.0 => inf inf inf inf inf inf ..
		1.0, math.huge, math.huge => 1.0 inf inf inf inf inf ..
		0/0, 1 =>
		1.0, 0/0 =>
		1.0, 0/0, -1 =>
		0/0, 0/0, -1.0 =>
		1, 10, 0/0 =>
		1.0, 10.0, 0/0 =>
		9007199254740993, 9007199254740993, 1.0 => 9007199254740992.0 9007199254740992.0 9007199254740992.0 9007199254740992.0 9007199254740992.0 9007199254740992.0 ..
		9007199254740993, 9007199254740991, 1.0 =>
		math.maxinteger, math.maxinteger, -1.0 => 9.223372036854776e+18 9.223372036854776e+18 9.223372036854776e+18 9.223372036854776e+18 9.223372036854776e+18 9.223372036854776e+18 ..
		1e16, 1e16 + 4, 1 => 10000000000000000.0 10000000000000000.0 10000000000000000.0 10000000000000000.0 10000000000000000.0 10000000000000000.0 ..
		0.0, 1.0, 0.3 => 0.0 0.3 0.6 0.8999999999999999
	`)
}

func TestEvaluateForOfWrongValues(t *testing.T) {
	t.Parallel()
	eachFor(t, `
		nil, 2 => ! 'for' start must be a number
		'1', 2 => ! 'for' start must be a number
		{}, 2, 3 => ! 'for' start must be a number
		1, nil => ! 'for' limit must be a number
		1, '2' => ! 'for' limit must be a number
		1, true => ! 'for' limit must be a number
		1, 2, nil => ! 'for' step must be a number
		1, 2, '1' => ! 'for' step must be a number
		1, 2, print => ! 'for' step must be a number
		'1', '2' => ! 'for' start must be a number
		'1', 2, '3' => ! 'for' start must be a number
		1, '2', '3' => ! 'for' limit must be a number
		'1', '2', '3' => ! 'for' start must be a number
		1, 2, 0 => ! 'for' step is zero
		1, 2, 0.0 => ! 'for' step is zero
		1, 2, -0.0 => ! 'for' step is zero
		2, 1, 0 => ! 'for' step is zero
		0/0, 1, 0 => ! 'for' step is zero
		'1', 2, 0 => ! 'for' start must be a number
		1, '2', 0 => ! 'for' limit must be a number
		1, nil, 0.0 => ! 'for' limit must be a number
		setmetatable({}, {__lt = print, __add = print}), 1 => ! 'for' start must be a number
	`)
}

func TestEvaluateForIn(t *testing.T) {
	t.Parallel()
	for _, c := range [][2]string{
		{"for k, v in next, {10, 20, x = 30} do write(k, '=', v, ' ') end", "1=10 2=20 x=30 "},
		{"for k in next, {} do write('no') end", ""},
		{"for k in next, {10}, 1 do write('no') end", ""},
		{"for k in next, {10, 20}, 1 do write(k) end", "2"},
		{"for i in function() end do write('no') end", ""},
		{"for i in function() return nil, 1 end do write('no') end", ""},
		{"local n = 0 for i in function() n = n + 1 if n < 4 then return n end end do write(i) end", "123"},
		{"local n = 0 for i in function() n = n + 1 if n < 4 then return n == 2 end end do write(rawtostring(i), ' ') end", "false true false "},
		{"for a, b, c in function(s, c) if c < 3 then return c + 1, s end end, 's', 0 do print(a, b, c) end", "1\ts\tnil\n2\ts\tnil\n3\ts\tnil\n"},
		{"for a in function(...) write(select('#', ...)) end do end", "2"},
		{"for a in function(...) write(select('#', ...), rawtostring((...))) end, 5 do end", "25"},
		{"for a in setmetatable({}, {__call = function(self, s, c) if c < 2 then return c + 1 end end}), nil, 0 do write(a) end", "12"},
		{"for k, v in setmetatable({}, {__call = function(self, s, c) return next(s, c) end}), {7} do write(k, v) end", "17"},
		{"for i in coroutine.wrap(function() for i = 1, 3 do coroutine.yield(i * i) end end) do write(i, ' ') end", "1 4 9 "},
		{"for k, v in pairs({1, 2}) do k, v = k + 10, v + 20 write(k, ' ', v, ' ') end", "11 21 12 22 "},
		{"for a, a in next, {5} do write(a) end", "5"},
		{"local f, s, c = next, {1, 2, 3} for k in f, s, c do f, s, c = nil write(k) end", "123"},
		{"for i, v in ipairs({1, 2, nil, 4}) do write(i, v, ' ') end", "11 22 "},
		{"for k in select(2, 1, next), {9} do write(k) end", "1"},
		{"for k in (function() return next, {8}, nil, 4 end)() do write(k) end", "1"},
		{"for k in next, (function() return {8}, 1 end)() do write('no') end", ""},
		{"local t = {1, 2, 3} for k in next, t do t[k] = nil write(k) end write(rawlen(t))", "1230"},
	} {
		puts(t, c[0], c[1])
	}
	for kind, v := range map[string]string{
		"nil": "nil", "boolean": "true", "number": "1", "string": "'x'", "table": "{}", "thread": "coroutine.running()",
	} {
		fails(t, "\nfor k in "+v+" do end", "2: attempt to call a "+kind+" value")
	}
	fails(t, "for k in next do end", "1: bad argument #1 to 'next' (table expected, got nil)")
	fails(t, "for k in next, {}, 1 do end", "1: invalid key to 'next'")
	fails(t, "for k in error, 'x' do end", "1: x")
}

func TestEvaluateGotoAndBreak(t *testing.T) {
	t.Parallel()
	for _, c := range [][2]string{
		{"goto a write('no') ::a:: write('on')", "on"},
		{"do goto a end write('no') ::a:: write('on')", "on"},
		{"do do do goto a end end write('no') end ::a:: write('on')", "on"},
		{"local i = 1 ::a:: write(i) i = i + 1 if i < 4 then goto a end", "123"},
		{"local i = 1 ::a:: do write(i) do i = i + 1 if i < 4 then goto a end end end", "123"},
		{"goto b ::a:: write('a') goto c ::b:: write('b') goto a ::c:: write('c')", "bac"},
		{"for i = 1, 3 do for j = 1, 3 do if j == 2 then goto on end write(i, j, ' ') end ::on:: end", "11 21 31 "},
		{"for i = 1, 3 do for j = 1, 3 do if i == 2 then goto out end write(i, j, ' ') end end ::out:: write('out')", "11 12 13 out"},
		{"for i = 1, 3 do if i == 2 then goto on end write(i) ::on:: end", "13"},
		{"for i in next, {1, 2, 3} do if i == 2 then goto on end write(i) ::on:: end", "13"},
		{"local i = 0 while i < 3 do i = i + 1 if i == 2 then goto on end write(i) ::on:: end", "13"},
		{"local i = 0 repeat i = i + 1 if i == 2 then goto on end write(i) ::on:: until i == 3", "13"},
		{"for i = 1, 3 do for j = 1, 3 do if j == 2 then break end write(i, j, ' ') end end", "11 21 31 "},
		{"while true do while true do write('a') break end write('b') break end write('c')", "abc"},
		{"repeat repeat write('a') break until true write('b') break until false write('c')", "abc"},
		{"for i = 1, 3 do do do break end end write('no') end write('on')", "on"},
		{"for k in next, {1, 2} do write(k) break end", "1"},
		{"while true do if true then break end end write('on')", "on"},
		{"while true do (function() while true do break end end)() break end write('on')", "on"},
		{"do goto a write('no') ::a:: write('in ') end do goto a write('no') ::a:: write('on') end", "in on"},
		{"local function f() goto a ::a:: write('in ') end f() goto a ::a:: write('on')", "in on"},
	} {
		puts(t, c[0], c[1])
	}
	puts(t, "goto a local x = 1 ::a::", "")
	puts(t, "do goto a local x write('no') ::a:: ::b:: end write('on')", "on")
	puts(t, "local n = 0 ::a:: local x x = (x or 0) + 1 n = n + 1 if n < 3 then goto a end print(x, n)", "1\t3\n")
	puts(t, "local n = 0 ::a:: n = n + 1 local x if n == 1 then x = 5 goto a end print(x)", "nil\n")
	puts(t, "local function f() do goto a end ::b:: do return 'b' end ::a:: goto b end print(f())", "b\n")
	puts(t, "local i = 0 ::a:: i = i + 1 local ok = pcall(function() local j = 0 ::a:: j = j + 1 if j < 3 then goto a end error(j) end) if i < 2 then goto a end print(i, ok)", "2\tfalse\n")
}

// Promise 31: closures share the variables they name, each turn of a loop having its own.
func TestEvaluateVariables(t *testing.T) {
	t.Parallel()
	for _, c := range [][2]string{
		{"local x = 1 local function get() return x end local function set(v) x = v end set(2) write(get(), x) x = 3 write(get())", "223"},
		{"local function counter() local n = 0 return function() n = n + 1 return n end end local a, b = counter(), counter() write(a(), a(), b(), a())", "1213"},
		{"local x = 1 local f = function() return x end local x = 2 local g = function() return x end write(f(), g(), x)", "122"},
		{"local x = 1 do local x = 2 write(x) end write(x)", "21"},
		{"local x = x write(rawtostring(x)) x = 1 local x = x + 1 write(x)", "nil2"},
		{"local function f(n) if n > 0 then return n + f(n - 1) end return 0 end local g = f f = nil write(pcall(g, 1) and 'y' or 'n')", "n"},
		{"local f = function() return f end write(rawtostring(f()))", "nil"},
		{"local fs = {} for i = 1, 3 do fs[i] = function() i = i + 10 return i end end write(fs[1](), ' ', fs[1](), ' ', fs[2](), ' ', fs[3]())", "11 21 12 13"},
		{"local fs = {} for i = 1, 3 do local j = i fs[i] = function() j = j + 10 return i, j end end print(fs[1]()) print(fs[1]()) print(fs[2]())", "1\t11\n1\t21\n2\t12\n"},
		{"local fs = {} for k, v in next, {'a', 'b'} do fs[k] = function() v = v .. k return v end end write(fs[1](), fs[1](), fs[2]())", "a1a11b2"},
		{"local fs, i = {}, 0 while i < 3 do i = i + 1 local j = i fs[i] = function() j = j + 1 return i, j end end print(fs[1]()) print(fs[1]()) print(fs[3]())", "3\t2\n3\t3\n3\t4\n"},
		{"local fs, i = {}, 0 repeat i = i + 1 local j = i fs[i] = function() j = j * 2 return j end until j == 3 write(fs[1](), fs[1](), fs[2](), fs[3]())", "2446"},
		{"local fs, i = {}, 0 ::a:: local j = i fs[i] = function() j = j + 10 return j end i = i + 1 if i < 3 then goto a end write(fs[0](), ' ', fs[0](), ' ', fs[1](), ' ', fs[2]())", "10 20 11 12"},
		{"local f local i = 0 ::a:: do local x = i if not f then f = function() x = x + 1 return x end end end i = i + 1 if i < 5 then goto a end write(f(), f())", "12"},
		{"for i = 1, 3 do local x write(rawtostring(x), ' ') x = i end", "nil nil nil "},
		{"for i = 1, 3 do local j = i i = 10 write(j) end", "123"},
		{"local function f(a) local g = function() a = a + 1 return a end return g, function() return a end end local g, h = f(1) g() g() write(h(), select(2, f(7))())", "37"},
		{"local function f(...) local a, b = ... return function() a, b = b, a return a, b end end local g = f(1, 2) print(g()) print(g())", "2\t1\n1\t2\n"},
		{"local function outer() local x = 0 local function mid() local function inner() x = x + 1 return x end return inner end return mid(), mid(), function() return x end end local a, b, c = outer() a() b() write(c())", "2"},
		{"local x = 1 local f = load('x = (x or 10) + 1 return x') write(f(), x, f(), _G.x)", "1111212"},
		{"local t = {} for i = 1, 2 do for j = 1, 2 do t[#t + 1] = function() return i * 10 + j end end end for _, f in next, t do write(f(), ' ') end", "11 12 21 22 "},
		{"local a <const> = 5 local f = function() return a end write(f())", "5"},
		{"local x = 'up' local co = coroutine.wrap(function() while true do x = coroutine.yield(x) end end) write(co()) co('new') write(x) x = 'mine' write(co('yours'), x)", "upnewyoursyours"},
		{"local f do local x = 1 f = function() x = x + 1 return x end end do local y = 100 end write(f(), f())", "23"},
		{"local function f() return f end write(rawtostring(f() == f))", "true"},
		{"local function a() local function b() return a end return b end write(rawtostring(a()() == a))", "true"},
		{"local t = {} function t.a.b() end", ""},
	} {
		if c[1] == "" {
			fails(t, c[0], "1: attempt to index a nil value")
			continue
		}
		puts(t, c[0], c[1])
	}
	// Each time that a function is evaluated there is a new closure, though it names nothing.
	gives(t, "local t = {} for i = 1, 2 do t[i] = function() end end return t[1] == t[2], rawtostring(t[1]), rawtostring(t[2])", "false function: 22 function: 23")
}
