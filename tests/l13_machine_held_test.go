package tests

import "testing"

// see makes an object that a weak table sees under a name; there tells whether it is still there behind a whole collection.
const sees = `local seen = setmetatable({}, {__mode = "v"})
local function see(k) local o = setmetatable({}, {__close = function() end}) seen[k] = o return o end
local function there(...) collectgarbage() for i = 1, select("#", ...) do local k = (select(i, ...)) write(k, seen[k] and "+" or "-") end end
`

func TestExecHolds(t *testing.T) {
	t.Parallel()
	for _, r := range [][2]string{
		{"there('a')", "a- ="},
		{"local x = see('a') there('a')", "a+ ="},
		{"local x = see('a') x = nil there('a')", "a- ="},
		{"do local x = see('a') end there('a')", "a- ="},
		{"do local x, y, z, u, v = 1, 2, 3, 4, see('a') end there('a')", "a+ ="},
		{"do local x, y, z, u, v = 1, 2, 3, 4, see('a') end local x, y, z, u, v there('a')", "a- ="},
		{"see('a') there('a')", "a- ="},
		{"x = see('a') there('a')", "a+ ="},
		{"x = see('a') x = nil there('a')", "a- ="},
		{"string.x = see('a') there('a')", "a+ ="},
		{"string.x = see('a') string = nil there('a')", "a+ ="},
		{"math.x = see('a') math = nil there('a')", "a+ ="},
		{"math.x = see('a') math = nil local p, q, r there('a')", "a- ="},
		// Arguments that a function has no parameters for are held by nothing, further ones by its frame.
		{"local function f() there('a') end f(see('a'))", "a- ="},
		{"local function f(x) there('a') end f(see('a'))", "a+ ="},
		{"local function f(x) x = nil there('a') end f((see('a')))", "a+ ="},
		{"local function f(x) x = nil there('a') end f(see('a'))", "a- ="},
		{"local function f(...) there('a') end f(see('a'))", "a+ ="},
		{"local function f(x, ...) there('a', 'b') end f(see('a'), see('b'))", "a+b+ ="},
		{"local function f(x, ...) there('a', 'b') end f(nil, see('b'))", "a-b+ ="},
		// What was open is taken by the next instruction.
		{"local function two() return see('a'), see('b') end local function f() there('a', 'b') end f(two())", "a-b- ="},
		{"local function two() return see('a'), see('b') end local function f() there('a', 'b') end f(1, two())", "a-b- ="},
		{"local function two() return see('a'), see('b') end local t = {two()} there('a', 'b')", "a+b+ ="},
		{"local function two() return see('a'), see('b') end local x = two() there('a', 'b')", "a+b- ="},
		// Values that wait while something is closed.
		{"local function f() local x <close> = setmetatable({}, {__close = function() there('a') end}) return see('a') end f()", "a+ ="},
		{"local function f() local x <close> = setmetatable({}, {__close = function() there('a', 'b') end}) return see('a'), see('b') end local y = f() there('a', 'b')", "a+b+a+b- ="},
		{"local function f() do local x <close> = setmetatable({}, {__close = function() there('a') end}) local y = see('a') y = nil end end f()", "a- ="},
		// The error that is handed on, and the one that a closing fails with.
		{"pcall(function() local x <close> = setmetatable({}, {__close = function() there('a') end}) error(see('a')) end) there('a')", "a+a- ="},
		{"pcall(function() local y <close> = setmetatable({}, {__close = function() there('a', 'b') end}) local x <close> = setmetatable({}, {__close = function() there('a') error(see('b')) end}) error((see('a'))) end) there('a', 'b')",
			"a+a+b+a-b- ="},
		{"local ok, e = pcall(error, see('a')) there('a') e = nil there('a')", "a+a- ="},
		{"local function f() local y <close> = setmetatable({}, {__close = function() there('a') end}) local x <close> = setmetatable({}, {__close = function() error('e') end}) return see('a') end pcall(f)", "a- ="},
		// Cells, open and closed.
		{"local x = see('a') local function f() return x end there('a')", "a+ ="},
		{"local function make() local x = see('a') return function() return x end end local f = make() there('a') f = nil there('a')", "a+a- ="},
		{"local function make() local x = see('a') return function() return x end, function() x = nil end end local f, g = make() there('a') g() there('a')", "a+a- ="},
		{"local g local function make() local x = see('a') g = function() return x end x = nil there('a') end make()", "a- ="},
		{"local g local co = coroutine.wrap(function() local x = see('a') g = function() return x end coroutine.yield() end) co() co = nil there('a') g = nil there('a')", "a+a- ="},
		{"local g local co = coroutine.wrap(function() local x, y = 1, see('a') g = function() return x end coroutine.yield() end) co() co = nil there('a') g = nil there('a')", "a+a- ="},
		// Metatables, keys and values.
		{"local t = setmetatable({}, see('a')) there('a') setmetatable(t, nil) there('a')", "a+a- ="},
		{"local t = {[see('a')] = see('b')} local p, q there('a', 'b')", "a+b+ ="},
		{"local t = {} local function s() t[see('a')] = 1 end s() there('a') t[next(t)] = nil there('a')", "a+a- ="},
	} {
		comesOut(t, sees+r[0], r[1])
	}
}

func TestExecThreadsHold(t *testing.T) {
	t.Parallel()
	for _, r := range [][2]string{
		// One that hasn't begun holds its function, a dead one nothing.
		{"local co local function make() local o = see('a') co = coroutine.create(function() return o end) end make() there('a') coroutine.resume(co) there('a')", "a+a- ="},
		{"local co local function make() local o = see('a') co = coroutine.create(function() return o end) end make() there('a') coroutine.close(co) there('a')", "a+a- ="},
		{"local co local function make() local o = see('a') co = coroutine.create(function() error(o) end) end make() there('a') coroutine.resume(co) there('a')", "a+a- ="},
		{"local function make() local o = see('a') coroutine.create(function() return o end) end make() there('a')", "a- ="},
		// One that waits: in its function, deeper, in a pcall, in a closing.
		{"local co = coroutine.create(function() local x = see('a') coroutine.yield() end) coroutine.resume(co) there('a') coroutine.resume(co) there('a')", "a+a- ="},
		{"local co = coroutine.create(function() local x = see('a') coroutine.yield() end) coroutine.resume(co) there('a') coroutine.close(co) there('a')", "a+a- ="},
		{"local co = coroutine.create(function() local x = see('a') coroutine.yield() end) coroutine.resume(co) co = nil there('a')", "a- ="},
		{"local co = coroutine.create(function() local x = see('a') pcall(function(...) local y = see('b') coroutine.yield() end, see('c')) end) coroutine.resume(co) there('a', 'b', 'c') coroutine.resume(co) there('a', 'b', 'c')", "a+b+c+a-b-c- ="},
		{"local co = coroutine.create(function() local x <close> = setmetatable({}, {__close = coroutine.yield}) return see('a') end) coroutine.resume(co) there('a') coroutine.resume(co) there('a')", "a+a- ="},
		{"local co = coroutine.create(function() local x <close> = setmetatable({}, {__close = coroutine.yield}) error(see('a')) end) coroutine.resume(co) there('a') coroutine.resume(co) there('a')", "a+a- ="},
		{"local co = coroutine.create(function() local x <close> = setmetatable({}, {__close = coroutine.yield}) error(see('a')) end) coroutine.resume(co) there('a') coroutine.close(co) there('a')", "a+a- ="},
		{"local co = coroutine.create(function() local y <close> = setmetatable({}, {__close = function() there('a') end}) local x <close> = setmetatable({}, {__close = coroutine.yield}) error(see('a')) end) coroutine.resume(co) coroutine.close(co)", "a- ="},
		{"local co = coroutine.create(function() for i = 1, 2 do local x <close> = setmetatable({}, {__close = coroutine.yield}) local y = see(i) end end) coroutine.resume(co) there(1, 2) coroutine.resume(co) there(1, 2) coroutine.resume(co) there(1, 2)", "1+2-1-2+1-2- ="},
		// What it is resumed with and yields goes straight to where it is wanted.
		{"local co = coroutine.create(function(x) x = nil there('a') coroutine.yield(see('b')) there('a', 'b') end) coroutine.resume(co, (see('a'))) there('a', 'b') coroutine.resume(co)", "a+a-b-a-b- ="},
		{"local co = coroutine.create(function(x) there('a') end) coroutine.resume(co, see('a')) there('a')", "a+a- ="},
		{"local co = coroutine.create(function(...) there('a') end) coroutine.resume(co, see('a')) there('a')", "a+a- ="},
		{"local co = coroutine.create(function() local x = coroutine.yield() there('a') end) coroutine.resume(co) coroutine.resume(co, see('a')) there('a')", "a+a- ="},
		{"local co = coroutine.create(coroutine.yield) coroutine.resume(co, see('a')) there('a')", "a- ="},
		// The threads that are resumed inside each other are held, whoever else holds them.
		{"local function f() local x = see('a') coroutine.wrap(function() local y = see('b') there('a', 'b') end)() end coroutine.wrap(f)()", "a+b+ ="},
		{"coroutine.wrap(function() local x = see('a') there('a') end)() there('a')", "a+a- ="},
		{"local co co = coroutine.create(function() local x = see('a') co = nil there('a') end) coroutine.resume(co) there('a')", "a+a- ="},
		{"local main = coroutine.running() local x = see('a') coroutine.wrap(function() main = nil there('a') end)()", "a+ ="},
	} {
		comesOut(t, sees+r[0], r[1])
	}
}

// Registers that the instructions write into, and those that they don't, seen by what the collector frees.
func TestExecWritesNothingElse(t *testing.T) {
	t.Parallel()
	// f gets six objects in its registers 0 to 5, carries an instruction out, and has register 6 called.
	for _, r := range [][2]string{
		{"Move 0 1", "a-b+c+d+e+f+"},
		{"Nil 0 2", "a-b-c+d+e+f+"},
		{"Nil 4 2", "a+b+c+d+e-f-"},
		{"Bool 3 1", "a+b+c+d-e+f+"},
		{"Int 3 1", "a+b+c+d-e+f+"},
		{"Const 3 0", "a+b+c+d-e+f+"},
		{"GetGlobal 3 0", "a+b+c+d-e+f+"},
		{"SetGlobal 3 0; Nil 3 1", "a+b+c+d+e+f+"},
		{"GetIndex 3 0 1", "a+b+c+d-e+f+"},
		{"GetField 3 0 0", "a+b+c+d-e+f+"},
		{"Self 3 0 0", "a+b+c+d-e-f+"},
		{"Self 0 3 0", "a-b-c+d+e+f+"},
		{"SetIndex 0 1 2; Nil 1 2", "a+b+c+d+e+f+"},
		{"SetField 0 0 1; Nil 1 1", "a+b+c+d+e+f+"},
		{"SetItem 0 1 1; Nil 1 1", "a+b+c+d+e+f+"},
		{"Dots 1 0; SetList 0 1; Nil 1 1", "a+b-c+d+e+f+"},
		{"Dots 3 0; SetList 0 1; Nil 1 2", "a+b+c+d+e+f+"},
		{"Table 3", "a+b+c+d-e+f+"},
		{"Eq 3 0 1", "a+b+c+d-e+f+"},
		{"Not 3 0", "a+b+c+d-e+f+"},
		{"Len 3 0", "a+b+c+d-e+f+"},
		{"Closure 3 0", "a+b+c+d-e+f+"},
		{"Dots 1 4", "a+b-c-d-e+f+"},
		{"Dots 1 1", "a+b+c+d+e+f+"},
		{"GetGlobal 0 1; Call 0 1 1", "a-b+c+d+e+f+"},
		{"GetGlobal 0 1; Call 0 3 1", "a-b+c+d+e+f+"},
		{"GetGlobal 0 1; Call 0 3 2", "a-b+c+d+e+f+"},
		{"GetGlobal 0 1; Call 0 3 3", "a-b-c+d+e+f+"},
		{"GetGlobal 0 1; Call 0 3 7", "a-b-c-d-e-f-"},
		{"GetGlobal 0 1; GetGlobal 1 1; Call 1 2 0; Call 0 0 1", "a-b-c+d+e+f+"},
		{"GetGlobal 0 1; Each 0 1", "a-b+c+d-e+f+"},
		{"GetGlobal 0 1; Each 0 2", "a-b+c+d-e-f+"},
		{"Int 0 1; Int 1 0; Int 2 1; ForPrep 0 g; g: Tick", "a-b-c-d+e+f+"},
		{"Int 0 1; Int 1 1; Int 2 1; ForPrep 0 g; g: Tick", "a-b-c-d-e+f+"},
		{"Int 0 1; Int 1 0; Int 2 1; Jump h; g: Tick; Jump i; h: ForLoop 0 g; i: Tick", "a-b-c-d+e+f+"},
		{"Int 0 1; Int 1 1; Int 2 1; Jump h; g: Tick; Jump i; h: ForLoop 0 g; i: Tick", "a-b-c-d-e+f+"},
		{"Jump h; g: Tick; Jump i; h: EachLoop 0 g; i: Tick", "a+b+c-d+e+f+"},
		{"Nil 3 1; Jump h; g: Tick; Jump i; h: EachLoop 0 g; i: Tick", "a+b+c+d-e+f+"},
		{"Tbc 3; Nil 3 1", "a+b+c+d-e+f+"},
		{"Tbc 3; Close 3", "a+b+c+d+e+f+"},
		{"Close 0", "a+b+c+d+e+f+"},
	} {
		source := "local function g() end local function f() end " + sees + "behind = function() there('a', 'b', 'c', 'd', 'e', 'f') end pass = function() end " +
			"local function all() return see('a'), see('b'), see('c'), see('d'), see('e'), see('f') end f(all())"
		splicedTo(t, source, `regs 1 line 1
			1: Return 0 1
			regs 8 line 7 params 6 dots consts "x" "pass" "behind"
			7: Tick; `+r[0]+`; GetGlobal 6 2; Call 6 1 1; 8: Return 0 1`, r[1]+" =")
	}
}
