package tests

import "testing"

// Promise 31, and the cells of chapter 14 by hand.
func TestExecCells(t *testing.T) {
	t.Parallel()
	for _, r := range [][2]string{
		{"local a = {} for i = 1, 3 do a[i] = function() i = i + 1 return i end end write(a[1](), a[1](), a[2](), a[3]())", "2334 ="},
		{"local x = 1 local function get() return x end local function set(v) x = v end set(5) write(x, get()) x = 7 write(get())", "557 ="},
		{"local get, set do local x = 1 get = function() return x end set = function(v) x = v end end set(5) write(get())", "5 ="},
		{"local function f() local x = 1 return function() x = x + 1 return x end, function() return x end end local a, b = f() local c, d = f() a() a() c() write(b(), d())", "32 ="},
		{"local function f(x) return function() return function() x = x * 2 return x end end end local g = f(3)() write(g(), g())", "612 ="},
		{"local x = 1 local function f() local function g() x = x + 1 end g() return x end write(f(), x)", "22 ="},
		{"local x = 1 local co = coroutine.wrap(function() x = 2 coroutine.yield() x = x + 10 end) co() write(x) x = 5 co() write(x)", "215 ="},
		{"local get local co = coroutine.wrap(function() local x = 1 get = function() return x end coroutine.yield() x = 2 coroutine.yield() end) co() write(get()) co() write(get()) co() write(get())", "122 ="},
		{"local get local co = coroutine.create(function() local x = 1 get = function() x = x + 1 return x end coroutine.yield() end) coroutine.resume(co) write(get()) coroutine.close(co) write(get())", "23 ="},
		{"local get pcall(function() local x = 1 get = function() x = x + 1 return x end error() end) write(get(), get())", "23 ="},
		{"local function f(n) local x = n local g = function() return x end if n > 0 then return f(n - 1), g end return g end write(select('#', f(3)), f(0)())", "20 ="},
		{"local a = {} local i = 0 while i < 3 do i = i + 1 local j = i a[i] = function() j = j + 1 return j end end write(a[1](), a[1](), a[2](), a[3]())", "2334 ="},
		{"local a = {} local i = 0 repeat i = i + 1 local j = i a[i] = function() j = j + 1 return j end until j == 3 write(a[1](), a[1](), a[2](), a[3]())", "2334 ="},
		{"local a = {} for k, v in next, {4, 5} do a[k] = function() v = v + 1 return v end end write(a[1](), a[1](), a[2]())", "566 ="},
		{"local a, i = {}, 0 ::again:: local x = i i = i + 1 a[i] = function() x = x + 1 return x end if i < 3 then goto again end write(a[1](), a[1](), a[2](), a[3]())", "1223 ="},
		{"local function f(...) local t = {...} local n = 0 return function() n = n + 1 return t[n] end end local g = f(7, 8) write(g(), g(), rawtostring(g()))", "78nil ="},
		{"local x <close> = setmetatable({}, {__close = function() write('closed ') end}) local f = function() return x end write(type(f()), ' ')", "table closed  ="},
	} {
		comesOut(t, r[0], r[1])
	}
}

const sharing = `regs 2 line 5 params 1 ups R1
5: GetUp 1 0; SetUp 0 0; Return 1 2
regs 1 line 6 ups R1
6: GetUp 0 0; Return 0 2
`

// In functions made by hand: a setter and a getter of register 1 of the third, which does what is told.
func TestExecCellsByHand(t *testing.T) {
	t.Parallel()
	for _, r := range [][2]string{
		{"1: Closure 2 0; Closure 3 1; Int 1 7; Call 3 1 2; Return 3 2", "= 7"},
		{"1: Closure 2 0; Closure 3 1; Int 1 7; Close 1; Int 1 8; Call 3 1 2; Return 3 2", "= 7"},
		{"1: Closure 2 0; Closure 3 1; Int 1 7; Close 2; Int 1 8; Call 3 1 2; Return 3 2", "= 8"},
		{"1: Closure 2 0; Closure 3 1; Int 1 7; Close 0; Int 1 8; Call 3 1 2; Return 3 2", "= 7"},
		{"1: Closure 2 0; Int 1 7; Int 3 9; Call 2 2 2; Return 1 3", "= 9 7"},
		{"1: Closure 2 0; Int 1 7; Int 3 9; Call 2 2 1; Return 1 2", "= 9"},
		{"1: Int 1 7; Closure 2 0; Close 1; Closure 3 1; Int 1 8; Int 4 0; Move 4 3; Call 4 1 2; Move 5 4; Move 6 2; Int 7 9; Call 6 2 2; Return 5 3", "= 8 7"},
		{"1: Int 1 7; Closure 2 1; Closure 3 1; Int 1 8; Call 2 1 2; Call 3 1 2; Return 2 3", "= 8 8"},
		{"1: Int 1 7; Closure 2 1; Close 1; Int 1 8; Closure 3 1; Close 1; Int 1 9; Call 2 1 2; Call 3 1 2; Return 1 4", "= 9 7 8"},
		{"1: Int 1 7; Closure 1 1; Move 2 1; Call 2 1 2; Eq 3 1 2; Return 3 2", "= true"},
		{"1: Closure 2 0; Closure 3 1; Int 4 3; Move 5 2; Move 6 4; Call 5 2 1; Close 1; Move 5 2; Int 6 4; Call 5 2 2; Call 3 1 2; Return 1 7", "= 3 function: 23 4 3 3 4"},
	} {
		splicedTo(t, "local function f() local x return function(v) x = v end, function() return x end end return f()", sharing+"regs 8 line 1\n"+r[0], r[1])
	}
}
