package tests

import (
	"strconv"
	"strings"
	"testing"

	"loop.example/g00002/impl"
)

// madeRows hold texts against how many objects and bytes they make beyond the library's and the text's own, at pace 0: a line
// has a text, =>, the objects and the bytes.
func madeRows(t *testing.T, rows string) {
	t.Helper()
	for _, row := range strings.Split(strings.TrimSpace(rows), "\n") {
		source, told, _ := strings.Cut(row, "=>")
		fields := strings.Fields(told)
		live, _ := strconv.Atoi(fields[0])
		bytes, _ := strconv.Atoi(fields[1])
		source = strings.TrimSpace(source)
		got := checkMachine(t, source, compiled(t, source), paced(0))
		if got.Live != firstLive+live || got.Bytes != firstBytes+bytes {
			t.Errorf("%s: %d objects and %d bytes more, not %d and %d", source, got.Live-firstLive, got.Bytes-firstBytes, live, bytes)
		}
	}
}

func TestExecSizes(t *testing.T) {
	t.Parallel()
	madeRows(t, `
		local x = 1 => 0 0
		local x = 'a' .. 'b' => 0 0
		local x = {} => 1 40
		local x = {1, 2} => 1 120
		local x = {1, nil, 3} => 1 120
		local x = {a = 1, b = 2, 3, [4] = 5} => 1 200
		local x = {1, 1, [1.0] = 2} => 1 120
		local x = {table.unpack({}, 1, 5)} => 2 80
		local x = {table.unpack({1, 2, 3})} => 2 320
		local x = {} x.a = 1 x.a = nil => 1 80
		local x = {} x.a = nil => 1 40
		x = 1 => 0 40
		x = nil => 0 0
		print = nil => 0 0
		print = 1 => 0 0
		function f() end => 1 80
		local function f() end => 1 40
		local x local function f() return x end => 2 88
		local x local function f() return x end local function g() return x end => 3 136
		local x, y local function f() return x, y end => 3 136
		local x local function f() return function() return x end end => 2 88
		local x local function f() return function() return x end end f() => 3 136
		local function f() return f end => 2 88
		for i = 1, 3 do local f = function() return i end end => 6 264
		for i = 1, 3 do local f = function() end end => 3 120
		local t = {} for i = 1, 15 do t[i] = i end for i = 1, 15 do t[i] = nil end t.x = 1 => 1 680
		local t = {} for i = 1, 16 do t[i] = i end for i = 1, 16 do t[i] = nil end t.x = 1 => 1 80
		local t = {} for i = 1, 16 do t[i] = i end for i = 1, 8 do t[i] = nil end t.x = 1 => 1 720
		local t = {} for i = 1, 16 do t[i] = i end for i = 1, 9 do t[i] = nil end t.x = 1 => 1 360
		coroutine.create(print) => 1 400
		coroutine.create(function() end) => 2 440
		coroutine.resume(coroutine.create(type), 1) => 1 400
		coroutine.wrap(type) => 5 592
		load('') => 1 40
		load('=') => 0 0
		load('local x = {}')() => 2 80
		setmetatable({}, {}) => 2 80
		setmetatable({}, {__index = {}}) => 3 160
		rawset({}, 1, 2) => 1 80
		next({}) => 1 40
		pcall(error) => 0 0
		pcall(type, {}) => 1 40
		local x = ('x'):gsub('x', '%0') => 0 0
		local x = ('x'):gsub('x', type) => 7 360
		table.pack(1, 2) => 1 160
		table.sort({}) => 4 160
		xpcall(type, print) => 2 88
		string.gmatch('', '') => 6 312
	`)
}

func TestExecSizesOfPrelude(t *testing.T) {
	t.Parallel()
	chunk := compiled(t, impl.Prelude())
	ups, cells := 0, map[int]bool{}
	text := chunk.Protos[len(chunk.Protos)-1]
	made := 0
	for _, i := range text.Code {
		if i.Op == impl.InsClosure {
			made++
			ups += len(chunk.Protos[i.B].Ups)
			for _, up := range chunk.Protos[i.B].Ups {
				cells[up.Index] = true
			}
		}
	}
	if made != 19 || ups != 35 || len(cells) != 14 {
		t.Errorf("%d closures, %d upvalues, %d cells", made, ups, len(cells))
	}
}

// Objects are shown by their numbers within their kind, which are those of Evaluate.
func TestExecNumbersOfObjects(t *testing.T) {
	t.Parallel()
	for _, r := range [][2]string{
		{"return _G, string, math, table, coroutine, {}", "= table: 1 table: 2 table: 3 table: 4 table: 5 table: 6"},
		{"return tostring, print, ipairs, pairs, assert, xpcall, coroutine.wrap, math.ceil, math.max, math.min", "= function: 2 function: 3 function: 5 function: 6 function: 7 function: 8 function: 9 function: 10 function: 11 function: 12"},
		{"return string.gmatch, string.gsub, table.pack, table.concat, table.insert, table.remove, table.move, table.sort",
			"= function: 13 function: 14 function: 15 function: 16 function: 17 function: 18 function: 19 function: 20"},
		{"return coroutine.running(), coroutine.create(print), coroutine.create(print)", "= thread: 1 thread: 2 thread: 3"},
		{"return function() end, load(''), function() end", "= function: 22 function: 23 function: 24"},
		{"return type, string.len, coroutine.close", "= builtin: type builtin: string.len builtin: coroutine.close"},
		{"local x return function() return x end, {}, function() return x end, {}", "= function: 22 table: 6 function: 23 table: 7"},
		{"collectgarbage() local t = {} t = nil collectgarbage() return {}, function() end", "= table: 7 function: 22"},
		{"for i = 1, 5 do local t = {} end collectgarbage() return {}", "= table: 11"},
	} {
		comesOut(t, r[0], r[1])
	}
}

// What is freed is no longer told; the numbers go on.
func TestExecLiveBehindCollection(t *testing.T) {
	t.Parallel()
	for _, r := range []struct {
		source      string
		live, bytes int
	}{
		// The closure of the prelude's text goes.
		{"collectgarbage()", -1, -40},
		// The function that is called comes into the register of what is gone.
		{"do local t = {1, 2} end collectgarbage()", -1, -40},
		{"do local t = {1, 2} end local t collectgarbage()", -1, -40},
		{"local t = {} collectgarbage()", 0, 0},
		// Registers that nothing is written into go on holding what they have.
		{"local t = {{{}}} collectgarbage() t = nil collectgarbage()", 0, 0},
		{"local t = {} t.t = t t = nil collectgarbage()", 0, 40},
		{"local t = {} t.t = t t = nil local a, b, c collectgarbage()", -1, -40},
		{"x = {} x = nil collectgarbage()", -1, 0},
		{"print = nil collectgarbage()", -3, -40 - 40 - 16 - 40},
		{"string.len = nil collectgarbage() return ('x'):upper()", -1, -40},
		{"local s = string string = nil s = nil collectgarbage()", -1, -40},
		{"math = nil collectgarbage()", -6, -40 - 40 - 11*40 - 3*48 - 40},
		{"table.sort = nil collectgarbage()", -2, -80},
		{"coroutine.create(print) collectgarbage()", -1, -40},
		{"do local c = coroutine.create(print) end local c = 1 collectgarbage()", -1, -40},
		{"local c = coroutine.create(function() local t = {} coroutine.yield() end) coroutine.resume(c) collectgarbage()", 2, 440 - 40 + 40 + 0},
	} {
		got := checkMachine(t, r.source, compiled(t, r.source), paced(0))
		if got.Code != 0 || got.Live != firstLive+r.live || got.Bytes != firstBytes+r.bytes {
			t.Errorf("%s: %d objects and %d bytes more, not %d and %d", r.source, got.Live-firstLive, got.Bytes-firstBytes, r.live, r.bytes)
		}
	}
}
