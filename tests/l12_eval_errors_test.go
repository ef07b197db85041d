package tests

import (
	"strings"
	"testing"

	"loop.example/g00002/impl"
)

// preludePlace is what is told ahead of a message from the line of the prelude that has a text.
func preludePlace(t *testing.T, text string) string {
	t.Helper()
	for i, line := range strings.Split(impl.Prelude(), "\n") {
		if strings.Contains(line, text) {
			return intLitText(i+1) + ": "
		}
	}
	t.Fatalf("the prelude hasn't %q", text)
	return ""
}

func TestEvaluateErrorLevels(t *testing.T) {
	t.Parallel()
	for _, r := range [][2]string{
		{"error('e', 0)", "e"},
		{"\nerror('e')", "2: e"},
		{"\nerror('e', 1)", "2: e"},
		{"\nerror('e', nil)", "2: e"},
		{"\nerror('e', 1.0)", "2: e"},
		{"\nerror('e', 2)", "e"},
		{"\nerror('e', 3)", "e"},
		{"\nerror('e', -1)", "e"},
		{"\nerror('e', math.maxinteger)", "e"},
		{"\nerror('e', math.mininteger)", "e"},
		{"\nerror('')", "2: "},
		{"\nerror('a\\nb')", "2: a\nb"},
		{"error\n(\n'e'\n)", "2: e"},
		{"local function f()\nerror('e', 0)\nend\n\nf()", "e"},
		{"local function f()\nerror('e')\nend\n\nf()", "2: e"},
		{"local function f()\nerror('e', 2)\nend\n\nf()", "5: e"},
		{"local function f()\nerror('e', 3)\nend\n\nf()", "e"},
		{"local function f()\nerror('e', 3)\nend\nlocal function g()\nf()\nend\n\ng()", "8: e"},
		{"local function f()\nerror('e', 4)\nend\nlocal function g()\nf()\nend\n\ng()", "e"},
		{"local function f()\nerror('e', 2)\nend\nlocal function g()\nf()\nend\n\ng()", "5: e"},
		{"local function f() error('e', 2) end\nlocal t = {\n1,\nf\n(\n)\n}", "5: e"},
		{"local e = error\nlocal function f()\ne('e', 2) end\n\nf()", "5: e"},
		{"error(5)", "5"},
		{"error(5, 1)", "5"},
		{"error(1.5, 2)", "1.5"},
		{"error(true)", "true"},
		{"error(false, 0)", "false"},
		{"error(nil)", "nil"},
		{"error()", "nil"},
		{"error(nil, 2)", "nil"},
		{"error({})", "table: 6"},
		{"error(setmetatable({}, {__tostring = function() return 'x' end}))", "table: 6"},
		{"error(print)", "function: 3"},
		{"error(function() end)", "function: 22"},
		{"error(type)", "builtin: type"},
		{"error(string.rep)", "builtin: string.rep"},
		{"error((coroutine.running()))", "thread: 1"},
		{"\nerror('e', 'x')", "2: bad argument #2 to 'error' (number expected, got string)"},
		{"\nerror('e', 1.5)", "2: bad argument #2 to 'error' (number has no integer representation)"},
		{"\nerror(nil, {})", "2: bad argument #2 to 'error' (number expected, got table)"},
		{"error(1, 2, {})", "1"},
		{"return error('e')", "1: e"},
		{"return error('e', 2)", "e"},
	} {
		fails(t, r[0], r[1])
	}
	for _, r := range [][2]string{
		{"pcall(error, 'e')", "false e"},
		{"pcall(error, 'e', 0)", "false e"},
		{"pcall(error, 'e', 1)", "false e"},
		{"pcall(error, 'e', 2)", "false 1: e"},
		{"pcall(error, 'e', 3)", "false e"},
		{"pcall(pcall, error, 'e', 2)", "true false e"},
		{"pcall(pcall, error, 'e', 3)", "true false 1: e"},
		{"pcall(function() error('e') end)", "false 1: e"},
		{"pcall(function() error('e', 2) end)", "false e"},
		{"pcall(function() error('e', 3) end)", "false 1: e"},
		{"pcall(function() pcall(error, 'e', 2) error('f', 2) end)", "false f"},
		{"pcall(pcall)", "false bad argument #1 to 'pcall' (value expected)"},
		{"pcall(error)", "false nil"},
		{"pcall(error, nil)", "false nil"},
		{"pcall(error, {})", "false table: 6"},
		{"select('#', pcall(error))", "2"},
		{"coroutine.resume(coroutine.create(error), 'e')", "false e"},
		{"coroutine.resume(coroutine.create(error), 'e', 2)", "false e"},
		{"coroutine.resume(coroutine.create(function() error('e') end))", "false 1: e"},
		{"coroutine.resume(coroutine.create(function() error('e', 2) end))", "false e"},
		{"coroutine.resume(coroutine.create(function() pcall(1) error('e', 1) end))", "false 1: e"},
		{"coroutine.resume(coroutine.create(function() local function f() error('e', 2) end\n\n f() end))", "false 3: e"},
		{"coroutine.resume(coroutine.create(pcall), error, 'e')", "true false e"},
		{"coroutine.resume(coroutine.create(pcall), error, 'e', 2)", "true false e"},
		{"pcall(coroutine.wrap(function() error('e') end))", "false 1: e"},
		{"pcall(coroutine.wrap(function() error({}) end))", "false table: 6"},
		{"pcall(coroutine.wrap(error), 'e', 5)", "false e"},
	} {
		gives(t, "return "+r[0], r[1])
	}
	gives(t, "local t = {} local ok, e = pcall(error, t) return e == t", "true")
	gives(t, "local ok, e = pcall(error, ('x'):rep(65536), 2) return #e", "65539")
}

func TestEvaluateProtectedCalls(t *testing.T) {
	t.Parallel()
	eachLine(t, "", `
		pcall(type, 1) => true number
		pcall(function() end) => true
		pcall(function() return 1, nil, 3 end) => true 1 nil 3
		pcall(function(...) return ... end, 1, nil) => true 1 nil
		pcall(pcall, type, 1) => true true number
		pcall(pcall, pcall, error, 'e') => true true false e
		pcall(nil) => false attempt to call a nil value
		pcall(true) => false attempt to call a boolean value
		pcall(1) => false attempt to call a number value
		pcall('x') => false attempt to call a string value
		pcall({}) => false attempt to call a table value
		pcall(coroutine.running()) => false attempt to call a thread value
		pcall(nil, 1, 2) => false attempt to call a nil value
		pcall(setmetatable({}, {__call = function(self, a) return a end}), 5) => true 5
		pcall(string.rep) => false bad argument #1 to 'string.rep' (string expected, got no value)
		pcall(string.rep, 'x', 2) => true xx
		pcall(rawset, {}, nil, 1) => false table index is nil
		pcall(next, {}, 1) => false invalid key to 'next'
		pcall() => ! 1: bad argument #1 to 'pcall' (value expected)
		pcall(function() return {} + 1 end) => false 1: attempt to do arithmetic on a table value
		pcall(function() return pcall(error, 'in') end) => true false in
		pcall(function() local ok, e = pcall(error, 'in') error(e .. ' out', 0) end) => false in out
		pcall(pcall(error, 'x')) => false attempt to call a boolean value
		pcall(select, 0) => false bad argument #1 to 'select' (index out of range)
		xpcall(function() return 1, 2 end, error) => true 1 2
		xpcall(function(...) return ... end, error, 1, nil) => true 1 nil
		xpcall(error, function(...) return select('#', ...), ... end, 'e', 0) => false 1 e
		xpcall(error, function(e) return e .. '!', 2 end, 'e', 0) => false e! 2
		xpcall(error, function() end) => false
		xpcall(error, rawtostring) => false nil
		xpcall(error, function(e) error(e .. ' again', 0) end, 'e', 0) => ! e again
		pcall(xpcall, error, function(e) error(e .. ' again', 0) end, 'e', 0) => false e again
		xpcall(nil, function(e) return e end) => false attempt to call a nil value
		xpcall(print, nil) => true
		xpcall(function() error('e') end, function(e) return e end) => false 1: e
		xpcall(function() error() end, type) => false nil
		xpcall(xpcall, rawtostring, error, rawtostring, 'x') => true false x
		assert(1, 2, 3) => 1 2 3
		assert(0, nil) => 0 nil
		assert(true) => true
		assert(nil) => ! assertion failed
		assert(false) => ! assertion failed
		assert() => ! assertion failed
		assert(nil, 'm') => ! m
		assert(false, 'm', 2) => ! m
		assert(nil, nil) => ! nil
		assert(nil, {}) => ! table: 6
		assert(nil, 5) => ! 5
		pcall(assert, nil) => false assertion failed
		assert(pcall(type, 1)) => true number
	`)
	fails(t, "return xpcall(error, nil)", preludePlace(t, "return false, h(...)")+"attempt to call a nil value")
	fails(t, "return xpcall()", preludePlace(t, "return false, h(...)")+"attempt to call a nil value")
	fails(t, "return xpcall(error, {})", preludePlace(t, "return false, h(...)")+"attempt to call a table value")
}

// Messages of primitives have the place of the caller.
func TestEvaluatePlacesOfPrimitives(t *testing.T) {
	t.Parallel()
	for _, r := range [][2]string{
		{"\ntype()", "2: bad argument #1 to 'type' (value expected)"},
		{"local x = 1 +\nrawlen\n()", "3: bad argument #1 to 'rawlen' (table expected, got no value)"},
		{"local function f()\nstring.rep() end\n\nf()", "2: bad argument #1 to 'string.rep' (string expected, got no value)"},
		{"local function f()\nreturn string.rep() end\n\nf()", "2: bad argument #1 to 'string.rep' (string expected, got no value)"},
		{"local x = setmetatable({}, {__index = string.rep})\n.x", "2: bad argument #1 to 'string.rep' (string expected, got table)"},
		{"local x = setmetatable({}, {__add = math.floor})\n+ 1", "2: bad argument #1 to 'math.floor' (number expected, got table)"},
		{"local x = setmetatable({}, {__call = coroutine.create})\n()", "2: bad argument #1 to 'coroutine.create' (function expected, got table)"},
		{"for i in\nmath.floor, {} do end", "1: bad argument #1 to 'math.floor' (number expected, got table)"},
		{"local x <close> = setmetatable({}, {__close = math.floor})\nlocal y", "1: bad argument #1 to 'math.floor' (number expected, got table)"},
		{"string.gsub('x', 'x', function()\nerror('e') end)", "2: e"},
		{"table.sort({2, 1}, function()\nerror('e') end)", "2: e"},
		{"coroutine.yield()", "1: attempt to yield outside of a coroutine"},
		{"\ncoroutine.close(coroutine.running())", "2: cannot close a coroutine that is not suspended"},
	} {
		fails(t, r[0], r[1])
	}
	for _, r := range [][2]string{
		{"math.ceil()", preludePlace(t, "math.ceil") + "attempt to do arithmetic on a nil value"},
		{"table.concat({{}})", "1: invalid value in 'table.concat'"},
		{"table.insert({}, 5, 1)", "1: position out of bounds"},
		{"\ntable.remove({1}, 5)", "2: position out of bounds"},
		{"\npairs(5)", "2: attempt to iterate over a number value"},
		{"\npairs()", "2: attempt to iterate over a nil value"},
		{"\ntostring(setmetatable({}, {__tostring = function() return 5 end}))", "2: '__tostring' must return a string"},
		{"\nprint(setmetatable({}, {__tostring = function() end}))", preludePlace(t, "write(tostring(") + "'__tostring' must return a string"},
		{"string.gsub('x', 'x', function() return {} end)", "invalid value in a replacement"},
		{"string.gsub('x', '(', 'y')", preludePlace(t, "return plain(s, p, r, most)") + "malformed pattern"},
		{"('x'):gsub('(', {})", preludePlace(t, "put(find(s, p, at))") + "malformed pattern"},
		{"coroutine.wrap()", preludePlace(t, "local co = create(f)") + "bad argument #1 to 'coroutine.create' (function expected, got nil)"},
		{"math.max('x', 1)", preludePlace(t, "if a < b then") + "attempt to compare string with number"},
		{"table.move({}, 1, 2)", preludePlace(t, "if at <= from or") + "attempt to compare nil with number"},
		{"local f = coroutine.wrap(print) f() f()", "cannot resume a dead coroutine"},
	} {
		fails(t, r[0], r[1])
	}
}
