package tests

import (
	"testing"

	"loop.example/g00002/impl"
)

// closer makes values that tell their name and the error when they are closed, and then do something.
const closer = `local function c(k, act) return setmetatable({}, {__close = function(o, e) write(k, "(", rawtostring(e), ") ") if act then act(o, e) end end}) end `

// Promise 21: each way out of a block.
func TestEvaluateClosingWaysOut(t *testing.T) {
	t.Parallel()
	for _, r := range [][2]string{
		{"do local a <close> = c('a') write('in ') end write('out')", "in a(nil) out"},
		{"do local a <close> = c('a') local b <close> = c('b') write('in ') end write('out')", "in b(nil) a(nil) out"},
		{"local a <close> = c('a') write('in ')", "in a(nil) "},
		{"local a <close>, b = c('a'), 1 write('in ')", "in a(nil) "},
		{"do local x = 1 local a <close> = c('a') local y = 2 local b <close> = c('b') do local z <close> = c('z') end write('in ') end", "z(nil) in b(nil) a(nil) "},
		{"if true then local a <close> = c('a') write('in ') end write('out')", "in a(nil) out"},
		{"if false then else local a <close> = c('a') write('in ') end write('out')", "in a(nil) out"},
		{"for i = 1, 3 do local a <close> = c(i) write('in ') end write('out')", "in 1(nil) in 2(nil) in 3(nil) out"},
		{"for k in next, {1, 2} do local a <close> = c(k) write('in ') end write('out')", "in 1(nil) in 2(nil) out"},
		{"local i = 0 while i < 2 do i = i + 1 local a <close> = c(i) write('in ') end write('out')", "in 1(nil) in 2(nil) out"},
		{"local i = 0 repeat i = i + 1 local a <close> = c(i) write('in ') until i == 2 write('out')", "in 1(nil) in 2(nil) out"},
		{"repeat local a <close> = c('a') local done = true until write('until ') or done write('out')", "until a(nil) out"},
		{"for i = 1, 3 do local a <close> = c(i) if i == 2 then break end write('in ') end write('out')", "in 1(nil) 2(nil) out"},
		{"while true do local a <close> = c('a') do local b <close> = c('b') break end end write('out')", "b(nil) a(nil) out"},
		{"repeat local a <close> = c('a') break until write('no') write('out')", "a(nil) out"},
		{"for i = 1, 2 do local a <close> = c(i) for j = 3, 4 do local b <close> = c(j) break end write('in ') end", "3(nil) in 1(nil) 3(nil) in 2(nil) "},
		{"do local a <close> = c('a') do local b <close> = c('b') goto out end end ::out:: write('out')", "b(nil) a(nil) out"},
		{"do local a <close> = c('a') do local b <close> = c('b') goto on end ::on:: write('on ') end", "b(nil) on a(nil) "},
		{"for i = 1, 2 do local a <close> = c(i) goto on ::on:: end", "1(nil) 2(nil) "},
		{"local i = 0 ::again:: i = i + 1 local a <close> = c(i) if i < 3 then goto again end write('end ')", "1(nil) 2(nil) end 3(nil) "},
		{"local a <close> = c('a') local i = 0 ::again:: i = i + 1 local b <close> = c('b') local d <close> = c('d') if i < 2 then goto again end write('end ')",
			"d(nil) b(nil) end d(nil) b(nil) a(nil) "},
		{"local i = 0 local a <close> = c('a') ::again:: i = i + 1 if i < 3 then goto again end write('end ')", "end a(nil) "},
		{"do goto out local a <close> = c('a') ::out:: end write('out')", "out"},
		{"do local a <close> = c('a') goto out local b <close> = c('b') ::out:: end write('out')", "a(nil) out"},
		{"local function f() local a <close> = c('a') write('in ') end f() write('out')", "in a(nil) out"},
		{"local function f() local a <close> = c('a') do local b <close> = c('b') return 'r', 2 end end print(f())", "b(nil) a(nil) r\t2\n"},
		{"local function f() for i = 1, 2 do local a <close> = c(i) while true do local b <close> = c('b') return end end end f() write('out')", "b(nil) 1(nil) out"},
		{"local function f() local a <close> = c('a') return (function() write('called ') return 1 end)() end print(f())", "called a(nil) 1\n"},
		{"print(pcall(function() local a <close> = c('a') error('e', 0) end))", "a(e) false\te\n"},
		{"print(pcall(function() local a <close> = c('a') do local b <close> = c('b') error('e', 0) end end))", "b(e) a(e) false\te\n"},
		{"print(pcall(function() local a <close> = c('a') local function f() local b <close> = c('b') error('e', 0) end f() end))", "b(e) a(e) false\te\n"},
		{"print(pcall(function() for i = 1, 3 do local a <close> = c(i) if i == 2 then error('e', 0) end end end))", "1(nil) 2(e) false\te\n"},
		{"print(pcall(function() local a <close> = c('a') error() end))", "a(nil) false\tnil\n"},
		{"print(pcall(function() local a <close> = c('a') local x = nil + 1 end))", "a(1: attempt to do arithmetic on a nil value) false\t1: attempt to do arithmetic on a nil value\n"},
		{"print(pcall(function() repeat local a <close> = c('a') until error('e', 0) end))", "a(e) false\te\n"},
		{"print(pcall(function() local a <close> = c('a') local b <close> = 5 end))",
			"a(1: variable got a number value that cannot be closed) false\t1: variable got a number value that cannot be closed\n"},
		{"local co = coroutine.create(function() local a <close> = c('a') do local b <close> = c('b') coroutine.yield() end end) coroutine.resume(co) write('close ') print(coroutine.close(co))",
			"close b(nil) a(nil) true\n"},
		{"local co = coroutine.wrap(function() local a <close> = c('a') coroutine.yield(1) return 2 end) write(co(), ' ') write(co(), ' ')", "1 a(nil) 2 "},
		{"local co = coroutine.create(function() local a <close> = c('a') coroutine.yield() error('e', 0) end) coroutine.resume(co) print(coroutine.resume(co))", "a(e) false\te\n"},
		{"local co = coroutine.create(function() local a <close> = c('a') coroutine.yield() end) coroutine.resume(co) write('end')", "end"},
	} {
		puts(t, closer+r[0], r[1])
	}
	got := ran(t, closer+"local a <close> = c('a') local b <close> = c('b') error('e')", plenty())
	if got.Code != impl.OutError || got.Output != "b(1: e) a(1: e) " || got.Error != "1: e" {
		t.Errorf("%s", outcomeText(got))
	}
	got = ran(t, closer+"local a <close> = c('a') return 1, 2, 3", plenty())
	if got.Code != 0 || got.Output != "a(nil) " || len(got.Results) != 3 {
		t.Errorf("%s", outcomeText(got))
	}
}

func TestEvaluateClosingValues(t *testing.T) {
	t.Parallel()
	for _, r := range [][2]string{
		{"do local a <close> = nil local b <close> = false local d <close> = c('d') end", "d(nil) "},
		{"do local a <close> end write('out')", "out"},
		{"do local a <close>, b = nil, 5 write(b) end", "5"},
		{"local function two() return c('x'), c('y') end do local a <close> = two() end", "x(nil) "},
		{"do local x, a <close>, y = 1, c('a'), 2 write(x, y) end", "12a(nil) "},
		{"local v = c('v') do local a <close> = v local b <close> = v end do local d <close> = v end", "v(nil) v(nil) v(nil) "},
		{"local v = c('v') local m = getmetatable(v) do local a <close> = v m.__close = function(o, e) write(rawtostring(o == v), rawtostring(e), select('#', o, e)) end end", "truenil2"},
		{"do local a <close> = setmetatable({}, {__close = function(...) write(select('#', ...), rawtostring((select(2, ...)))) end}) end", "2nil"},
		{"pcall(function() local a <close> = setmetatable({}, {__close = function(...) write(select('#', ...), rawtostring((select(2, ...)))) end}) error({}) end)", "2table: 8"},
		{"do local a <close> = setmetatable({}, {__close = setmetatable({}, {__call = function(self, o, e) write('called ', type(o), rawtostring(e)) end})}) end", "called tablenil"},
	} {
		puts(t, closer+r[0], r[1])
	}
	for _, r := range [][2]string{
		{"local a <close> = 5", "1: variable got a number value that cannot be closed"},
		{"local a <close> = 'x'", "1: variable got a string value that cannot be closed"},
		{"local a <close> = true", "1: variable got a boolean value that cannot be closed"},
		{"local a <close> = {}", "1: variable got a table value that cannot be closed"},
		{"local a <close> = setmetatable({}, {})", "1: variable got a table value that cannot be closed"},
		{"local a <close> = setmetatable({}, setmetatable({}, {__index = {__close = print}}))", "1: variable got a table value that cannot be closed"},
		{"local a <close> = print", "1: variable got a function value that cannot be closed"},
		{"local a <close> = type", "1: variable got a function value that cannot be closed"},
		{"local a <close> = coroutine.running()", "1: variable got a thread value that cannot be closed"},
		{"local x, y = 1\nlocal z,\na <close> = 2, 3", "3: variable got a number value that cannot be closed"},
		{"local a <close> = setmetatable({}, {__close = 5})", "1: attempt to call a number value"},
		{"local a <close> = setmetatable({}, {__close = false})", "1: attempt to call a boolean value"},
		{"local a <close> = setmetatable({}, {__close = {}})", "1: attempt to call a table value"},
		{"local m = {__close = print} local a <close> = setmetatable({}, m) m.__close = nil", "1: attempt to call a nil value"},
		{"local a <close> = setmetatable({}, {__close = print}) setmetatable(a, nil)", "1: attempt to call a nil value"},
		{"local a <close> = setmetatable({}, {__close = rawset})", "1: bad argument #3 to 'rawset' (value expected)"},
		{"local a <close> = setmetatable({}, {__close = setmetatable})", ""},
	} {
		if r[1] == "" {
			gives(t, r[0], "")
			continue
		}
		fails(t, r[0], r[1])
	}
	// What can't be closed isn't, and nothing of the same statement that would come behind it is made.
	puts(t, closer+"print(pcall(function() local a <close> = c('a') local x, b <close>, y = 1, {}, write('values ') write('no') end))",
		"values a(1: variable got a table value that cannot be closed) false\t1: variable got a table value that cannot be closed\n")
}

// If closing fails, the rest is closed with that error.
func TestEvaluateClosingThatFails(t *testing.T) {
	t.Parallel()
	const failing = closer + "local function f(k) return c(k, function() error(k .. '!', 0) end) end "
	for _, r := range [][2]string{
		{"print(pcall(function() local a <close> = c('a') local b <close> = f('b') local d <close> = c('d') end))", "d(nil) b(nil) a(b!) false\tb!\n"},
		{"print(pcall(function() local a <close> = f('a') local b <close> = f('b') end))", "b(nil) a(b!) false\ta!\n"},
		{"print(pcall(function() local a <close> = c('a') local b <close> = f('b') error('e', 0) end))", "b(e) a(b!) false\tb!\n"},
		{"print(pcall(function() local a <close> = f('a') local b <close> = c('b') local d <close> = f('d') error('e', 0) end))", "d(e) b(d!) a(d!) false\ta!\n"},
		{"print(pcall(function() local a <close> = c('a') do local b <close> = f('b') end write('no') end))", "b(nil) a(b!) false\tb!\n"},
		{"print(pcall(function() for i = 1, 3 do local a <close> = f('a') end write('no') end))", "a(nil) false\ta!\n"},
		{"print(pcall(function() for i = 1, 3 do local a <close> = f('a') break end write('no') end))", "a(nil) false\ta!\n"},
		{"print(pcall(function() while true do local a <close> = c('a') do local b <close> = f('b') break end end write('no') end))", "b(nil) a(b!) false\tb!\n"},
		{"print(pcall(function() do local a <close> = c('a') do local b <close> = f('b') goto out end end ::out:: write('no') end))", "b(nil) a(b!) false\tb!\n"},
		{"print(pcall(function() local i = 0 local a <close> = c('a') ::again:: i = i + 1 local b <close> = f('b') local d <close> = c('d') goto again end))", "d(nil) b(nil) a(b!) false\tb!\n"},
		{"print(pcall(function() local a <close> = c('a') do local b <close> = f('b') return 1 end end))", "b(nil) a(b!) false\tb!\n"},
		{"print(pcall(function() local a <close> = f('a') return 1 end))", "a(nil) false\ta!\n"},
		{"print(pcall(function() repeat local a <close> = f('a') until true write('no') end))", "a(nil) false\ta!\n"},
		{"print(pcall(function() repeat local a <close> = f('a') until false write('no') end))", "a(nil) false\ta!\n"},
		{"print(pcall(function() local a <close> = c('a', function(o, e) error(e, 0) end) error('e', 0) end))", "a(e) false\te\n"},
		{"print(pcall(function() local a <close> = c('a') local b <close> = c('b', function() error() end) error('e', 0) end))", "b(e) a(nil) false\tnil\n"},
		{"print(pcall(function() local a <close> = c('a') local b <close> = c('b', function() pcall(error, 'x') end) error('e', 0) end))", "b(e) a(e) false\te\n"},
		{"print(pcall(function() local a <close> = c('a', function() local x <close> = c('x') local y <close> = f('y') end) end))", "a(nil) y(nil) x(y!) false\ty!\n"},
		{"print(pcall(function() local a <close> = c('a') local b <close> = 'x' end))",
			"a(1: variable got a string value that cannot be closed) false\t1: variable got a string value that cannot be closed\n"},
		{"local co = coroutine.create(function() local a <close> = c('a') local b <close> = f('b') coroutine.yield() end) coroutine.resume(co) print(coroutine.close(co)) print(coroutine.status(co), coroutine.close(co))",
			"b(nil) a(b!) false\tb!\ndead\ttrue\n"},
		{"local co = coroutine.create(function() local a <close> = f('a') local b <close> = f('b') local d <close> = c('d') coroutine.yield() end) coroutine.resume(co) print(coroutine.close(co))",
			"d(nil) b(nil) a(b!) false\ta!\n"},
		{"local co = coroutine.create(function() local a <close> = f('a') pcall(function() local b <close> = f('b') coroutine.yield() end) write('no') end) coroutine.resume(co) print(coroutine.close(co))",
			"b(nil) a(b!) false\ta!\n"},
		{"local co = coroutine.create(function() local a <close> = c('a') pcall(pcall, function() local b <close> = f('b') coroutine.yield() end) write('no') end) coroutine.resume(co) print(coroutine.close(co))",
			"b(nil) a(b!) false\tb!\n"},
		{"local co = coroutine.create(function() local a <close> = c('a', function() print(pcall(error, 'caught')) end) coroutine.yield() end) coroutine.resume(co) print(coroutine.close(co))",
			"a(nil) false\tcaught\ntrue\n"},
	} {
		puts(t, failing+r[0], r[1])
	}
	got := ran(t, failing+"local a <close> = f('a') return 1", plenty())
	if got.Code != impl.OutError || got.Error != "a!" || got.Output != "a(nil) " || got.Results != nil {
		t.Errorf("%s", outcomeText(got))
	}
	got = ran(t, failing+"local a <close> = c('a') local b <close> = f('b') error({})", plenty())
	if got.Code != impl.OutError || got.Error != "b!" || got.Output != "b(table: 10) a(b!) " {
		t.Errorf("%s", outcomeText(got))
	}
}

// What is returned is known ahead of closing.
func TestEvaluateClosingBehindReturn(t *testing.T) {
	t.Parallel()
	for _, r := range [][2]string{
		{"local function f() local x = 1 local a <close> = c('a', function() x = 2 end) return x end print(f())", "a(nil) 1\n"},
		{"local function f() local x = {1} local a <close> = c('a', function() x[1] = 2 x = nil end) return x, x[1] end local t, n = f() print(t[1], n)", "a(nil) 2\t1\n"},
		{"local function f(...) local a <close> = c('a') return ... end print(f(1, nil, 3))", "a(nil) 1\tnil\t3\n"},
		{"local function f() local a <close> = c('a') return end print(f())", "a(nil) \n"},
		{"local function f() local a <close> = c('a', function() return 5 end) return 1 end print(f())", "a(nil) 1\n"},
		{"x = 1 local function f() local a <close> = c('a', function() x = 2 end) return x, (function() return x end)() end print(f()) print(x)", "a(nil) 1\t1\n2\n"},
		{"local function f() local a <close> = c('a') return select(2, 1, 2, 3) end print(f())", "a(nil) 2\t3\n"},
		{"local function f(n) local a <close> = c(n) if n > 0 then return f(n - 1) end return 'end' end print(f(2))", "0(nil) 1(nil) 2(nil) end\n"},
		{"local function f(n) do local a <close> = c(n) end if n > 0 then return f(n - 1) end return 'end' end print(f(2))", "2(nil) 1(nil) 0(nil) end\n"},
	} {
		puts(t, closer+r[0], r[1])
	}
}

// The line of what closes is seen as the line of the call that is one further out.
func TestEvaluateClosingLines(t *testing.T) {
	t.Parallel()
	const ahead = "local function c(k) return setmetatable({}, {__close = function(o, e) local ok, at = pcall(function() error('', 4) end) write(k, at) end}) end "
	const plainAhead = "local function c() return setmetatable({}, {__close = function(o, e) error('e', 2) end}) end "
	for _, r := range [][2]string{
		{"do\n\nlocal x\n<close>\n= c()\n\nend", "3: e"},
		{"do\n;\nlocal x <close> = c()\nend", "2: e"},
		{"do\nlocal y = 1\nlocal x <close> = c()\ny = 2\nend", "2: e"},
		{"if\ntrue\nthen\nlocal x <close> = c()\nend", "4: e"},
		{"if nil then\nelse\n\nlocal x <close> = c()\nend", "4: e"},
		{"while\ntrue\ndo\n\nlocal x <close> = c()\nend", "5: e"},
		{"for i = 1,\n2\ndo\n\nlocal x <close> = c()\nend", "5: e"},
		{"for k in next, {1}\n\ndo\nlocal x <close> = c()\nend", "4: e"},
		{"\nrepeat\n\nlocal x <close> = c()\nuntil\ntrue", "2: e"},
		{"\nrepeat\n\nlocal x <close> = c()\nuntil\nfalse", "2: e"},
		{"\nlocal x <close> = c()\nlocal y = 1", "1: e"},
		{"local function f()\n\nlocal x <close> = c()\nlocal y\nend\n\nf()", "1: e"},
		{"local f =\n\nfunction()\n\nlocal x <close> = c()\nend\n\nf()", "3: e"},
		{"local function f()\nlocal x <close> = c()\nreturn\n1\nend\n\nf()", "3: e"},
		{"local function f()\nlocal x <close> = c()\nreturn\ntype\n(1)\nend\n\nf()", "3: e"},
		{"local function f()\nlocal x <close> = c()\ndo\nreturn\nend\nend\n\nf()", "4: e"},
		{"while true do\nlocal x <close> = c()\ndo\nbreak\nend\nend", "4: e"},
		{"do\nlocal x <close> = c()\ndo\ngoto\nout\nend\nend\n::out::", "4: e"},
		{"::again::\nlocal x <close> = c()\n\ngoto\nagain", "4: e"},
		{"\n\nreturn (function()\nlocal x <close> = c()\nend)()", "3: e"},
		{"local x <close> = c()\n\n\nreturn", "4: e"},
		{"local x <close> = c()\n\n\nreturn\ntype\n(\n1)", "4: e"},
		{"local x <close> = c()\n\nlocal y =\nnil\n+\n1", "5: e"},
		{"local x <close> = c()\n\nlocal function g()\nerror('g')\nend\ndo\ng\n(\n)\nend", "8: e"},
		{"local x <close> = c()\n\nlocal function g()\n\nlocal y = nil + 1\nend\nlocal z = 1 +\ng\n()", "9: e"},
		{"local x <close> = c()\n\nlocal function g()\nlocal function h()\nerror('h')\nend\nreturn\nh()\nend\nlocal z = 1 +\ng\n()", "12: e"},
		{"local x <close> = setmetatable({}, {__close = 5})\n\n\nlocal y = 1\nreturn\n1", "5: attempt to call a number value"},
		{"do\n\nlocal x <close> = setmetatable({}, {__close = 5})\nend", "3: attempt to call a number value"},
	} {
		fails(t, plainAhead+r[0], r[1])
	}
	for _, r := range [][2]string{
		{"local co = coroutine.create(function()\nlocal x <close> = c('x')\n\ncoroutine.yield\n(\n)\nend) coroutine.resume(co) coroutine.close(co)", "x5: "},
		{"local co = coroutine.create(function()\nlocal x <close> = c('x')\nlocal function f()\nlocal y <close> = c('y')\nlocal z = 1 + coroutine.yield()\nend\nf\n(\n)\nend) coroutine.resume(co) coroutine.close(co)",
			"y5: x8: "},
		{"do\nlocal x <close> = c('x')\nlocal y <close> = c('y')\ndo\n\nlocal z <close> = c('z')\nend\nend", "z6: y2: x2: "},
		{"pcall(function()\nlocal x <close> = c('x')\nlocal y <close> = c('y')\n\nerror('e')\nend)", "y5: x5: "},
		{"pcall(function()\nlocal x <close> = c('x')\nlocal y <close> = setmetatable({}, {__close = error})\n\nend)", "x1: "},
	} {
		puts(t, ahead+r[0], r[1])
	}
}

// A closing may wait, and go on where it was.
func TestEvaluateClosingThatWaits(t *testing.T) {
	t.Parallel()
	const waiting = closer + "local function w(k) return c(k, function(o, e) write('[', rawtostring(coroutine.yield(k)), '] ') end) end local function drive(co, ...) while true do local v = table.pack(coroutine.resume(co, ...)) " +
		"for i = 1, v.n do write(rawtostring(v[i]), ' ') end if coroutine.status(co) == 'dead' then return end end end "
	for _, r := range [][2]string{
		{"drive(coroutine.create(function() do local a <close> = w('a') end write('on ') end), 7)", "a(nil) true a [7] on true "},
		{"drive(coroutine.create(function() local a <close> = w('a') local b <close> = w('b') return 'r' end), 7)", "b(nil) true b [7] a(nil) true a [7] true r "},
		{"drive(coroutine.create(function() local a <close> = w('a') local b <close> = w('b') error('e', 0) end), 7)", "b(e) true b [7] a(e) true a [7] false e "},
		{"drive(coroutine.create(function() for i = 1, 2 do local a <close> = w(i) end return 'r' end), 7)", "1(nil) true 1 [7] 2(nil) true 2 [7] true r "},
		{"drive(coroutine.create(function() for i = 1, 2 do local a <close> = w(i) break end return 'r' end), 7)", "1(nil) true 1 [7] true r "},
		{"drive(coroutine.create(function() local i = 0 ::again:: i = i + 1 local a <close> = w(i) if i < 2 then goto again end return 'r' end), 7)", "1(nil) true 1 [7] 2(nil) true 2 [7] true r "},
		{"drive(coroutine.create(function() print(pcall(function() local a <close> = w('a') error('e', 0) end)) return 'r' end), 7)", "a(e) true a [7] false\te\ntrue r "},
		{"drive(coroutine.create(function() local a <close> = c('a', function() local function g() return coroutine.yield('deep') end write(g(), ' ') end) end), 7)", "a(nil) true deep 7 true "},
		{"drive(coroutine.create(function() local a <close> = setmetatable({}, {__close = coroutine.yield}) return 'r' end), 7)", "true table: 6 nil true r "},
		{"local co = coroutine.create(function() local a <close> = c('a') local b <close> = w('b') error('e', 0) end) coroutine.resume(co) print(coroutine.close(co)) print(coroutine.status(co))", "b(e) a(nil) true\ndead\n"},
		{"local co = coroutine.create(function() local a <close> = c('a') local b <close> = c('b', function() local d <close> = c('d') coroutine.yield() end) return 1 end) coroutine.resume(co) print(coroutine.close(co))",
			"b(nil) d(nil) a(nil) true\n"},
		{"local co = coroutine.create(function() local a <close> = c('a', function() print(pcall(coroutine.yield)) print(coroutine.isyieldable()) end) coroutine.yield() end) coroutine.resume(co) print(coroutine.close(co))",
			"a(nil) false\tattempt to yield from a coroutine that is closed\nfalse\ntrue\n"},
		{"local co = coroutine.create(function() local a <close> = c('a', function() coroutine.yield() end) coroutine.yield() end) coroutine.resume(co) print(coroutine.close(co))",
			"a(nil) false\t1: attempt to yield from a coroutine that is closed\n"},
		{"local co co = coroutine.create(function() local a <close> = c('a', function() print(coroutine.status(co), pcall(coroutine.close, co)) print(coroutine.resume(co)) end) coroutine.yield() end) coroutine.resume(co) print(coroutine.close(co))",
			"a(nil) running\tfalse\tcannot close a coroutine that is not suspended\nfalse\tcannot resume a coroutine that is not suspended\ntrue\n"},
	} {
		puts(t, waiting+r[0], r[1])
	}
}

// Below a protected call that fails nothing of the callers is changed.
func TestEvaluateClosingBelowProtectedCalls(t *testing.T) {
	t.Parallel()
	for _, r := range [][2]string{
		{"local a <close> = c('a') local x = 1 pcall(function() local b <close> = c('b') x = 2 error('e', 0) end) write(x, ' ')", "b(e) 2 a(nil) "},
		{"for i = 1, 2 do local a <close> = c(i) pcall(function() for j = 1, 2 do local b <close> = c('b' .. j) error('e', 0) end end) write('on ') end", "b1(e) on 1(nil) b1(e) on 2(nil) "},
		{"local function f() local a <close> = c('a') pcall(error) pcall(error) return 'r' end write(f())", "a(nil) r"},
		{"local n = 0 local function deep(k) local a <close> = c(k) if k == 3 then error('e', 0) end pcall(deep, k + 1) n = n + 1 end deep(1) write(n)", "3(e) 2(nil) 1(nil) 2"},
		{"local t = {} for i = 1, 3 do t[i] = pcall(function() local x <close> = c(i) if i == 2 then error('e', 0) end end) end print(t[1], t[2], t[3])", "1(nil) 2(e) 3(nil) true\tfalse\ttrue\n"},
		{"local i = 0 while i < 3 do i = i + 1 local ok = pcall(function() if i == 2 then error() end end) write(rawtostring(ok), ' ') end", "true false true "},
		{"local x, y, z = 1, 2, 3 pcall(function() local a, b, c = 4, 5, 6 error() end) write(x, y, z)", "123"},
		{"print(pcall(function() local a <close> = c('a') print(pcall(function() local b <close> = c('b') error('e', 0) end)) error('f', 0) end))", "b(e) false\te\na(f) false\tf\n"},
	} {
		puts(t, closer+r[0], r[1])
	}
}
