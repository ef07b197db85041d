package tests

import (
	"strings"
	"testing"
)

// eachCaught holds expressions, each in a line of its own in one text, against their values with a blank behind each, or
// behind ! against the message with which they fail there.
func eachCaught(t *testing.T, ahead string, rows [][2]string) {
	t.Helper()
	const show = "local function s(f) local t = table.pack(pcall(f)) for i = 2, t.n do write(rawtostring(t[i]), ' ') end write('\\n') end "
	for len(rows) > 0 {
		some := rows[:min(len(rows), 400)]
		rows = rows[len(some):]
		source, want := show+ahead, ""
		for _, row := range some {
			source += "\ns(function() return " + row[0] + " end)"
			if message, isError := strings.CutPrefix(row[1], "!"); isError {
				line := strings.Count(source, "\n") + 1
				want += intLitText(line) + ": " + strings.TrimSpace(message) + " \n"
				continue
			}
			want += row[1] + "\n"
		}
		got := ran(t, source, plenty())
		if got.Code == 0 && got.Output == want {
			continue
		}
		t.Errorf("%s", outcomeText(got))
		lines, wanted := strings.Split(got.Output, "\n"), strings.Split(want, "\n")
		for i := range min(len(lines), len(some)) {
			if lines[i] != wanted[i] {
				t.Errorf("%s: %q, not %q", some[i][0], lines[i], wanted[i])
			}
		}
	}
}

// caughtLines reads rows as eachLine does.
func caughtLines(t *testing.T, lines string) [][2]string {
	t.Helper()
	var rows [][2]string
	for _, line := range strings.Split(strings.TrimSpace(lines), "\n") {
		source, want, found := strings.Cut(line, "=>")
		if !found {
			t.Fatalf("no arrow in %q", line)
		}
		want = strings.TrimSpace(want)
		if want != "" && !strings.HasPrefix(want, "!") {
			want += " "
		}
		rows = append(rows, [2]string{strings.TrimSpace(source), want})
	}
	return rows
}

// typed are values of each type.
func typed() map[string]string {
	return map[string]string{
		"nil": "nil", "(nil)": "nil", "true": "boolean", "false": "boolean", "1": "number", "1.5": "number", "''": "string", "'12'": "string",
		"({})": "table", "setmetatable({}, {})": "table", "print": "function", "type": "function", "(function() end)": "function", "coroutine.running()": "thread",
		"coroutine.create(print)": "thread",
	}
}

func TestEvaluateMessagesOfTypes(t *testing.T) {
	t.Parallel()
	var rows [][2]string
	add := func(source, message string) { rows = append(rows, [2]string{source, "! " + message}) }
	for v, kind := range typed() {
		one := " a " + kind + " value"
		v = "(" + v + ")"
		if kind != "table" && kind != "string" {
			add(v+".x", "attempt to index"+one)
			add(v+"[1]", "attempt to index"+one)
			add(v+":m()", "attempt to index"+one)
			add("#"+v, "attempt to get length of"+one)
		}
		if kind != "table" {
			add("(function() local v = "+v+" v.x = 1 end)()", "attempt to index"+one)
			add("(function() local v = "+v+" v[nil] = nil end)()", "attempt to index"+one)
		}
		if kind != "function" {
			add(v+"()", "attempt to call"+one)
			add("1, "+v+"(1, 2)", "attempt to call"+one)
			add("(function() for i in "+v+" do end end)()", "attempt to call"+one)
		}
		if kind != "number" {
			add("-"+v, "attempt to do arithmetic on"+one)
			add("~"+v, "attempt to do arithmetic on"+one)
		}
		if kind != "nil" && v != "(false)" {
			add("(function() local x <close> = "+v+" end)()", "variable got"+one+" that cannot be closed")
		}
		for w, other := range typed() {
			w = "(" + w + ")"
			wrong, joined := kind, kind
			if kind == "number" {
				wrong = other
			}
			if kind == "number" || kind == "string" {
				joined = other
			}
			if wrong != "number" {
				for _, sign := range strings.Fields("+ - * / % // ^ & | ~ << >>") {
					add(v+sign+w, "attempt to do arithmetic on a "+wrong+" value")
				}
			}
			if joined != "number" && joined != "string" {
				add(v+".."+w, "attempt to concatenate a "+joined+" value")
			}
			if kind == other && (kind == "number" || kind == "string") {
				continue
			}
			there, back := "attempt to compare "+kind+" with "+other, "attempt to compare "+other+" with "+kind
			if kind == other {
				there = "attempt to compare two " + kind + " values"
				back = there
			}
			add(v+"<"+w, there)
			add(v+"<="+w, there)
			add(v+">"+w, back)
			add(v+">="+w, back)
		}
	}
	eachCaught(t, "", rows)
}

func TestEvaluateRawOperations(t *testing.T) {
	t.Parallel()
	eachCaught(t, "local t, u, f, co = {1, 2, x = 5, [1.5] = 'h', [true] = 'b', [2^53] = 'big'}, {}, function() end, coroutine.running() t[t], t[f], t[print], t[co], t[type] = 1, 2, 3, 4, 5\n",
		caughtLines(t, `
		t[1], t[1.0], t['1'], t.x, t['x'], t.y => 1 1 nil 5 5 nil
		t[1.5], t[true], t[false], t[nil], t[0/0] => h b nil nil nil
		t[2^53], t[9007199254740992], t[2.0^53 + 1] => big big big
		t[t], t[u], t[f], t[print], t[co], t[type], t[rawlen] => 1 nil 2 3 4 5 nil
		#t, #u, #'', #'abc', #'a\0b' => 2 0 0 3 3
		('abc').len, ('abc').x, ('abc')[1], ('abc')[nil], ('abc').upper => builtin: string.len nil nil nil builtin: string.upper
		('abc'):len(), ('abc'):upper(), ('%d'):format(3), ('x').rep('ab', 2) => 3 ABC 3 abab
		('x'):y() => ! attempt to call a nil value
		('x').y.z => ! attempt to index a nil value
		t.x.y => ! attempt to index a number value
		t == t, t == u, t ~= u, f == f, print == print, print == type, type == type, co == co => true false true true true false true true
		1 == 1.0, 1 == '1', 0 == -0.0, 0/0 == 0/0, 0/0 ~= 0/0, 'a' == 'a', nil == nil, true == 1 => true false true false true true true false
		1 < 1.5, 2 < 1.5, 'a' < 'b', 'a' < 'B', '' < 'a', 'a' < 'aa', 'a\0b' < 'a\0c', '10' < '9' => true false true false true true true true
		'a' <= 'a', 'b' <= 'a', 'b' > 'a', 'a' >= 'a', '' >= 'a' => true false true true false
		0/0 < 1, 1 < 0/0, 0/0 <= 0/0, 0/0 > 1, 1 >= 0/0 => false false false false false
		9007199254740993 < 9007199254740992.0, 9007199254740992.0 < 9007199254740993 => false true
		math.maxinteger < 2^63, math.mininteger <= -2^63, math.mininteger < -2^63 => true true false
		1 .. 2, 1.0 .. '', -0.0 .. 'x', 'a' .. 1 .. 2.5 => 12 1.0 -0.0x a12.5
		'\xff\0' .. 'x' == '\xff\0x', #('\0' .. '\0') => true 2
		('x'):rep(65535) .. 'y' == nil, #(('x'):rep(65535) .. 1) => false 65536
		('x'):rep(65536) .. '' == nil => false
		('x'):rep(65536) .. 'y' => ! string too long
		('x'):rep(65535) .. 12 => ! string too long
		'10' + 1 => ! attempt to do arithmetic on a string value
		1 // 0 => ! attempt to divide by zero
		1 % 0 => ! attempt to divide by zero
		1 // 0.0, 1 % 0.0, -1 // 0.0, 1 / 0, -1 / 0 => inf nan -inf inf -inf
		2 ^ 0.5 => ! exponent out of range
		2 ^ 1024 => ! exponent out of range
		1.5 & 1 => ! number has no integer representation
		1 << 0.5 => ! number has no integer representation
		~(2^63) => ! number has no integer representation
		3.0 & 1, 2^53 | 1, ~0, 1 << 63, 1 << 64, -1 >> 63, 1 >> -1 => 1 9007199254740993 -1 -9223372036854775808 0 1 2
		7 // 2, -7 // 2, 7 % -3, -7 % 3, 7.5 // 2, -7.5 % 2, 7 / 2, 2 ^ 10 => 3 -4 -2 2 3.0 0.5 3.5 1024.0
		math.maxinteger + 1 == math.mininteger, math.mininteger // -1, -math.mininteger => true -9223372036854775808 -9223372036854775808
		({[1] = 'a', 'b'})[1], ({'b', [1] = 'a'})[1], ({1, nil, 3})[3], #{1, 2, nil, 4} => b a 3 2
		({[nil] = 1}) => ! table index is nil
		({[0/0] = 1}) => ! table index is NaN
		({[nil] = nil}) => ! table index is nil
		({x = nil, [1] = nil}).x => nil
		({[-0.0] = 1})[0], ({[0] = 1})[-0.0], next({[3.0] = 1}) => 1 1 3 1
	`))
	fails(t, "local t = {} t[nil] = 1", "1: table index is nil")
	fails(t, "local t = {} t[0/0] = 1", "1: table index is NaN")
	fails(t, "local t = {} t[nil] = nil", "1: table index is nil")
	fails(t, "local t = {} t[-(0/0)] = nil", "1: table index is NaN")
	puts(t, "local t = {} t[1.0] = 'a' t[2^53] = 'b' t[-0.0] = 'c' t[0.5] = 'd' for k, v in next, t do write(k, v, ' ') end", "1a 9007199254740992b 0c 0.5d ")
	puts(t, "t = {} t.x = 1 t.x = nil t.y = 2 print(t.x, t.y, next(t)) _G.z = 3 print(z, _G == _G._G, rawget(_G, 'z')) setmetatable(_G, {__index = function() return 7 end, __newindex = error}) print(nothing) w = 1 print(w, _G.nothing)",
		"nil\t2\ty\t2\n3\ttrue\t3\nnil\n1\t7\n")
}

// events are the operators with their entries.
var events = map[string]string{
	"+": "__add", "-": "__sub", "*": "__mul", "/": "__div", "%": "__mod", "//": "__idiv", "^": "__pow", "&": "__band", "|": "__bor", "~": "__bxor", "<<": "__shl", ">>": "__shr",
	"..": "__concat",
}

// named are objects with metatables: with(name, event, entry) is an object of that name that has the entry; told(..) are
// the names of values, or what they are shown as.
const metaAhead = `local names = {}
local function with(name, event, entry) local o = setmetatable({}, {[event] = entry}) names[o] = name return o end
local function told(...) local s = select("#", ...) .. ":" for i = 1, select("#", ...) do local v = select(i, ...) s = s .. " " .. (names[v] or rawtostring(v)) end return s end
local function left(...) return "left " .. told(...), "more" end
local function right(...) return "right " .. told(...), "more" end
`

func TestEvaluateEntriesOfBoth(t *testing.T) {
	t.Parallel()
	var rows [][2]string
	add := func(source, want string) { rows = append(rows, [2]string{source, want + " "}) }
	fail := func(source, message string) { rows = append(rows, [2]string{source, "! " + message}) }
	for sign, event := range events {
		what := "do arithmetic on"
		if sign == ".." {
			what = "concatenate"
		}
		sign = " " + sign + " "
		e := "'" + event + "'"
		a, b := "with('a', "+e+", left)", "with('b', "+e+", right)"
		bare := "with('c', 'x', 1)"
		add(a+sign+b, "left 2: a b")
		add(b+sign+a, "right 2: b a")
		add(a+sign+"1", "left 2: a 1")
		add("1.5"+sign+a, "left 2: 1.5 a")
		add("'s'"+sign+b, "right 2: s b")
		add(b+sign+"'s'", "right 2: b s")
		add("nil"+sign+a, "left 2: nil a")
		add(a+sign+"nil", "left 2: a nil")
		add(bare+sign+b, "right 2: c b")
		add(b+sign+bare, "right 2: b c")
		add("print"+sign+b+" == nil", "false")
		add("select('#', "+a+sign+"1)", "1")
		add("with('a', "+e+", function() end)"+sign+"1", "nil")
		add("1"+sign+"with('a', "+e+", function() return false, 2 end)", "false")
		add("with('a', "+e+", rawequal)"+sign+"1", "false")
		add("with('a', "+e+", with('f', '__call', left))"+sign+"1", "left 3: f a 1")
		fail("with('a', "+e+", 5)"+sign+"1", "attempt to call a number value")
		fail("1"+sign+"with('a', "+e+", false)", "attempt to call a boolean value")
		fail("with('a', "+e+", {})"+sign+b, "attempt to call a table value")
		fail("with('a', "+e+", 's')"+sign+b, "attempt to call a string value")
		fail(bare+sign+bare, "attempt to "+what+" a table value")
		fail("1"+sign+bare, "attempt to "+what+" a table value")
		fail("setmetatable({}, setmetatable({}, {__index = {"+event+" = left}}))"+sign+"1", "attempt to "+what+" a table value")
	}
	add("-with('a', '__unm', left)", "left 2: a a")
	add("~with('a', '__bnot', left)", "left 2: a a")
	add("-with('a', '__unm', function() end)", "nil")
	fail("-with('a', '__unm', 5)", "attempt to call a number value")
	fail("~with('a', '__unm', left)", "attempt to do arithmetic on a table value")
	fail("-with('a', '__sub', left)", "attempt to do arithmetic on a table value")
	fail("with('a', '__unm', left) - 1", "attempt to do arithmetic on a table value")
	eachCaught(t, metaAhead, rows)
}

func TestEvaluateEntriesOfComparisons(t *testing.T) {
	t.Parallel()
	const ahead = metaAhead + `local log = ""
local function note(v) return function(...) log = log .. told(...) return v, 1 end end
local function said() local s = log log = "" return s == "" and "-" or s end
`
	rows := caughtLines(t, `
		with('a', '__lt', note(true)) < with('b', '__lt', note(false)), said() => true 2: a b
		with('a', '__lt', note(true)) > with('b', '__lt', note(false)), said() => false 2: b a
		with('a', '__le', note(1)) <= with('b', '__le', note(nil)), said() => true 2: a b
		with('a', '__le', note(1)) >= with('b', '__le', note(nil)), said() => false 2: b a
		with('a', '__lt', note(0)) < 1, said() => true 2: a 1
		1 < with('a', '__lt', note('')), said() => true 2: 1 a
		1 > with('a', '__lt', note(nil)), said() => false 2: a 1
		'x' <= with('a', '__le', note({})), said() => true 2: x a
		with('a', '__le', note(false)) <= nil, said() => false 2: a nil
		with('c', 'x', 1) < with('a', '__lt', note(true)), said() => true 2: c a
		with('a', '__lt', function() end) < 1 => false
		not (with('a', '__lt', function() end) < 1) => true
		(with('a', '__lt', function() return 'x', 'y' end) < 1) == true => true
		with('a', '__lt', note(true)) <= with('a', '__lt', note(true)) => ! attempt to compare two table values
		with('a', '__le', note(true)) < with('a', '__le', note(true)) => ! attempt to compare two table values
		with('a', '__lt', note(true)) >= 1 => ! attempt to compare number with table
		with('a', '__le', note(true)) > 'x' => ! attempt to compare string with table
		with('a', '__lt', 5) < 1 => ! attempt to call a number value
		1 < with('a', '__lt', false) => ! attempt to call a boolean value
		with('a', '__le', with('f', '__call', note(1))) <= 2, said() => true 3: f a 2
		with('a', '__eq', note(true)) == with('b', '__eq', note(false)), said() => true 2: a b
		with('a', '__eq', note(true)) ~= with('b', '__eq', note(false)), said() => false 2: a b
		with('a', '__eq', note(nil)) == with('b', 'x', 1), said() => false 2: a b
		with('a', '__eq', note(nil)) ~= with('b', 'x', 1), said() => true 2: a b
		with('a', 'x', 1) == with('b', '__eq', note(7)), said() => true 2: a b
		with('a', 'x', 1) ~= with('b', '__eq', note(7)), said() => false 2: a b
		with('a', '__eq', function() end) == {} => false
		with('a', '__eq', note(true)) == 1, said() => false -
		with('a', '__eq', note(true)) == nil, 'x' == with('a', '__eq', note(true)), said() => false false -
		with('a', '__eq', note(true)) ~= print, said() => true -
		with('a', '__eq', 5) == {} => ! attempt to call a number value
		{} == with('a', '__eq', false) => ! attempt to call a boolean value
		rawequal(with('a', '__eq', note(true)), {}), said() => false -
	`)
	eachCaught(t, ahead, rows)
	puts(t, "local n = 0 local t = setmetatable({}, {__eq = function() n = n + 1 return true end}) print(t == t, t ~= t, n, t == {}, n, {} ~= t, n)", "true\tfalse\t0\ttrue\t1\tfalse\t2\n")
}

func TestEvaluateEntriesOfOne(t *testing.T) {
	t.Parallel()
	eachCaught(t, metaAhead, caughtLines(t, `
		#with('a', '__len', left) => left 1: a
		#with('a', '__len', function() end) => nil
		#with('a', '__len', function() return 'x', 2 end) => x
		#with('a', '__len', 5) => ! attempt to call a number value
		#with('a', '__len', with('f', '__call', left)) => left 2: f a
		rawlen(with('a', '__len', left)) => 0
		with('a', '__index', left).x => left 2: a x
		with('a', '__index', left)[1] => left 2: a 1
		with('a', '__index', left)[nil] => left 2: a nil
		select('#', with('a', '__index', left).x) => 1
		with('a', '__index', function() end).x => nil
		with('a', '__index', function(o, k) return function(...) return told(...) end end):m(1) => 2: a 1
		with('a', '__index', {x = 5}).x, with('a', '__index', {x = 5}).y => 5 nil
		with('a', '__index', with('b', '__index', left)).x => left 2: b x
		with('a', '__index', with('f', '__call', left)).x => nil
		with('a', '__index', rawget).x => nil
		with('a', '__index', type).x => table
		with('a', '__index', '').rep, with('a', '__index', '').x => builtin: string.rep nil
		with('a', '__index', 5).x => ! attempt to index a number value
		with('a', '__index', false).x => ! attempt to index a boolean value
		with('a', '__index', coroutine.running()).x => ! attempt to index a thread value
		with('a', '__index', left) == nil, rawget(with('a', '__index', left), 'x') => false nil
		rawset(with('a', '__index', left), 'x', false).x => false
		rawset(with('a', '__index', left), 'x', 0).x => 0
		setmetatable({}, setmetatable({}, {__index = function() return left end})).x => nil
		with('a', '__call', left)() => left 1: a more
		with('a', '__call', left)(1, nil) => left 3: a 1 nil more
		(with('a', '__call', left)(1)) => left 2: a 1
		with('a', '__call', with('b', '__call', left))(1) => left 3: b a 1 more
		with('a', '__call', select)(1) => ! bad argument #1 to 'select' (number expected, got table)
		with('a', '__call', rawlen)() => 0
		with('a', '__call', 5)() => ! attempt to call a number value
		with('a', '__call', false)() => ! attempt to call a boolean value
		with('a', '__call', {})() => ! attempt to call a table value
		pcall(with('a', '__call', left), 1) => true left 2: a 1 more
	`))
}

func TestEvaluateNewIndex(t *testing.T) {
	t.Parallel()
	for _, c := range [][2]string{
		{"local t = setmetatable({x = 1}, {__newindex = function(...) print(told(...)) end}) names[t] = 't' t.x = 2 t.y = 3 t.y = nil t[nil] = 4 t[1.0] = 5 print(t.x, t.y)",
			"3: t y 3\n3: t y nil\n3: t nil 4\n3: t 1.0 5\n2\tnil\n"},
		{"local t = setmetatable({x = 1}, {__newindex = function(...) print(told(...)) end}) names[t] = 't' t.x = nil t.x = 3 rawset(t, 'x', 4) t.x = 5 print(t.x)", "3: t x 3\n5\n"},
		{"local u = {} local t = setmetatable({x = 1}, {__newindex = u}) t.x = 2 t.y = 3 t.z = nil print(t.x, t.y, u.x, u.y)", "2\tnil\tnil\t3\n"},
		{"local v = {} local u = setmetatable({y = 1}, {__newindex = v}) local t = setmetatable({}, {__newindex = u}) t.x = 2 t.y = 3 print(rawget(v, 'x'), u.y, v.y)", "2\t3\tnil\n"},
		{"local t = setmetatable({}, {__newindex = rawset}) t.x = 1 print(rawget(t, 'x'))", "1\n"},
		{"local t = setmetatable({x = false}, {__newindex = error}) t.x = 1 print(t.x)", "1\n"},
		{"local u = setmetatable({}, {__call = error}) local t = setmetatable({}, {__newindex = u}) t.x = 1 print(rawget(u, 'x'))", "1\n"},
		{"local m = setmetatable({}, {__index = {__newindex = error}}) local t = setmetatable({}, m) t.x = 1 print(t.x)", "1\n"},
	} {
		puts(t, metaAhead+c[0], c[1])
	}
	for _, c := range [][2]string{
		{"setmetatable({}, {__newindex = 5}).x = 1", "1: attempt to index a number value"},
		{"setmetatable({}, {__newindex = false}).x = 1", "1: attempt to index a boolean value"},
		{"setmetatable({}, {__newindex = 's'}).x = 1", "1: attempt to index a string value"},
		{"setmetatable({}, {__newindex = {}})[nil] = 1", "1: table index is nil"},
		{"setmetatable({}, {__newindex = {}})[0/0] = 1", "1: table index is NaN"},
		{"setmetatable({}, {__index = error})[nil] = 1", "1: table index is nil"},
		{"('x').y = 1", "1: attempt to index a string value"},
	} {
		fails(t, c[0], c[1])
	}
}

func TestEvaluateChains(t *testing.T) {
	t.Parallel()
	const wrap = "local function wrap(n, entry, base) for i = 1, n do base = setmetatable({}, {[entry] = base}) end return base end "
	eachCaught(t, wrap, caughtLines(t, `
		wrap(1, '__index', {x = 1}).x, wrap(99, '__index', {x = 2}).x, wrap(100, '__index', {x = 3}).x => 1 2 3
		wrap(101, '__index', {x = 1}).x => ! '__index' chain too long
		wrap(150, '__index', {x = 1}).x => ! '__index' chain too long
		wrap(100, '__index', {}).x => nil
		wrap(101, '__index', {}).x => ! '__index' chain too long
		wrap(100, '__index', function() end).x => nil
		wrap(101, '__index', function() return 5 end).x => 5
		wrap(102, '__index', function() return 5 end).x => ! '__index' chain too long
		wrap(100, '__index', '').rep => builtin: string.rep
		wrap(101, '__index', '').rep => ! '__index' chain too long
		wrap(100, '__index', 5).x => ! attempt to index a number value
		wrap(101, '__index', 5).x => ! '__index' chain too long
		wrap(100, '__index', {m = function(self, v) return v end}):m(7) => 7
		wrap(101, '__index', {m = function(self, v) return v end}):m(7) => ! '__index' chain too long
		(function() local u = {} wrap(100, '__newindex', u).x = 1 return u.x end)() => 1
		(function() local u = {} wrap(101, '__newindex', u).x = 1 return u.x end)() => ! '__newindex' chain too long
		(function() local n wrap(101, '__newindex', function(t, k, v) n = v end).x = 1 return n end)() => 1
		(function() wrap(102, '__newindex', print).x = 1 end)() => ! '__newindex' chain too long
		(function() wrap(100, '__newindex', 5).x = 1 end)() => ! attempt to index a number value
		(function() wrap(101, '__newindex', 5).x = 1 end)() => ! '__newindex' chain too long
		select('#', wrap(100, '__call', function(...) return ... end)(1, 2)) => 102
		wrap(100, '__call', select)() => ! bad argument #1 to 'select' (number expected, got table)
		wrap(101, '__call', function(...) return ... end)() => ! '__call' chain too long
		wrap(100, '__call', {})() => ! attempt to call a table value
		wrap(101, '__call', {})() => ! '__call' chain too long
		wrap(100, '__call', 5)() => ! attempt to call a number value
		wrap(101, '__call', 5)() => ! '__call' chain too long
		wrap(99, '__call', function(...) return select('#', ...) end)(table.unpack({}, 1, 901)) => ! too many values
		wrap(99, '__call', function(...) return select(-1, ...) end)(table.unpack({}, 1, 901)) => ! too many values
		wrap(101, '__call', 5)(table.unpack({}, 1, 1000)) => ! '__call' chain too long
		wrap(100, '__call', 5)(table.unpack({}, 1, 1000)) => ! attempt to call a number value
		wrap(100, '__call', type)(table.unpack({}, 1, 1000)) => ! too many values
		wrap(100, '__call', type)(table.unpack({}, 1, 900)) => table
		wrap(100, '__call', type)(table.unpack({}, 1, 901)) => ! too many values
		(function() local t = {} t.__index = t return setmetatable(t, t).x end)() => ! '__index' chain too long
		(function() local t = {} t.__newindex = t setmetatable(t, t).x = 1 end)() => ! '__newindex' chain too long
		(function() local t = {} t.__call = t return setmetatable(t, t)() end)() => ! '__call' chain too long
		(function() local t = {} t.__add = t return setmetatable(t, t) + 1 end)() => ! attempt to call a table value
		(function() local t = {} t.__add, t.__call = t, t return setmetatable(t, t) + 1 end)() => ! '__call' chain too long
	`))
}

// The line ahead of a message is that of the node, which may stand in another line than its parts.
func TestEvaluateLines(t *testing.T) {
	t.Parallel()
	for _, c := range [][2]string{
		{"local x = 1\n+\n{}", "2: attempt to do arithmetic on a table value"},
		{"local x = {}\n\n+ 1\n+ 2", "3: attempt to do arithmetic on a table value"},
		{"local x = 1 + 2 *\n3 *\n4 - {}", "3: attempt to do arithmetic on a table value"},
		{"local x = 2\n^\n{}\n^ 3", "4: attempt to do arithmetic on a table value"},
		{"local x = 'a'\n..\n'b'\n..\n{}", "4: attempt to concatenate a table value"},
		{"local x = {}\n..\n'b'\n..\n'c'", "2: attempt to concatenate a table value"},
		{"local x =\n1\n<\n'a'", "3: attempt to compare number with string"},
		{"local x =\n1\n>=\n'a'", "3: attempt to compare string with number"},
		{"local x =\n-\n{}", "2: attempt to do arithmetic on a table value"},
		{"local x =\n#\n\n5", "2: attempt to get length of a number value"},
		{"local x = ~\n-\n{}", "2: attempt to do arithmetic on a table value"},
		{"local t\nlocal x = t\n.\ny", "3: attempt to index a nil value"},
		{"local t\nlocal x = t\n[\n'y'\n]", "3: attempt to index a nil value"},
		{"local t = {}\nlocal x = t\n.y\n.z", "4: attempt to index a nil value"},
		{"f\n(\n1\n)", "2: attempt to call a nil value"},
		{"f\n'x'", "2: attempt to call a nil value"},
		{"f\n\n{1,\n2}", "3: attempt to call a nil value"},
		{"f\n[[x\n\n]]", "2: attempt to call a nil value"},
		{"local t = {}\nt\n:\nm\n(\n)", "3: attempt to call a nil value"},
		{"t\n:\nm\n(\n)", "2: attempt to index a nil value"},
		{"(\nf\n)\n(\n)", "4: attempt to call a nil value"},
		{"type\n(\n)", "2: bad argument #1 to 'type' (value expected)"},
		{"local s = ''\nlocal x = s\n:rep\n(\n)", "3: bad argument #2 to 'string.rep' (number expected, got no value)"},
		{"local s = ''\nlocal x = s\n:rep\n(\ntype(\n1)\n)", "3: bad argument #2 to 'string.rep' (number expected, got string)"},
		{"local x = string.rep\n(\ntype(1),\ntype(\n2))", "2: bad argument #2 to 'string.rep' (number expected, got string)"},
		{"return string.rep\n(\ntype(1),\ntype(\n2))", "2: bad argument #2 to 'string.rep' (number expected, got string)"},
		{"local t = {}\nt\n.x\n.y\n= 1", "4: attempt to index a nil value"},
		{"local t = {}\nt.x,\nt\n[nil]\n= 1,\n2", "4: table index is nil"},
		{"local t\nt\n.x,\nt.y\n= f\n()", "6: attempt to call a nil value"},
		{"local t\nt\n.x,\nt.y\n= 1,\n2", "3: attempt to index a nil value"},
		{"function\na\n.b\n()\nend", "3: attempt to index a nil value"},
		{"function\na\n:b\n()\nend", "3: attempt to index a nil value"},
		{"local t = {\n1,\n[\nnil\n] =\n2\n}", "3: table index is nil"},
		{"local t = {\nx = 1,\n\n[0/\n0] = 2}", "4: table index is NaN"},
		{"for\ni = 1,\n'x'\ndo end", "1: 'for' limit must be a number"},
		{"\nfor i\n=\n'a',\n2\ndo\nend", "2: 'for' start must be a number"},
		{"local a\nfor\nk\nin\na\ndo\nend", "2: attempt to call a nil value"},
		{"\nfor\nk\nin\nnext,\n5\ndo\nend", "2: bad argument #1 to 'next' (table expected, got number)"},
		{"local\nx\n<close>\n=\n1", "2: variable got a number value that cannot be closed"},
		{"local a,\nb\n<close>,\nc =\n1,\n2,\n3", "2: variable got a number value that cannot be closed"},
		{"return\nf\n(\n)", "3: attempt to call a nil value"},
		{"return\ntype\n(\n)", "3: bad argument #1 to 'type' (value expected)"},
		{"local x = 1 and\n{}\n+\n1", "3: attempt to do arithmetic on a table value"},
		{"if\n1\n<\n{}\nthen\nend", "3: attempt to compare number with table"},
		{"while\n1\n<\n{}\ndo\nend", "3: attempt to compare number with table"},
		{"repeat\nlocal x\nuntil\n1\n<\n{}", "5: attempt to compare number with table"},
		{"local function f()\nlocal x =\n(nil)\n.x\nend\n\nf()", "4: attempt to index a nil value"},
		{"local t = setmetatable({}, {__add = function()\nerror('e', 2) end})\n\nlocal x = t\n\n+\n1", "6: e"},
		{"local t = setmetatable({}, {__index = function()\nerror('e', 2) end})\nlocal x = t\n\n.\nx", "5: e"},
		{"local t = setmetatable({}, {__newindex = function()\nerror('e', 2) end})\nt\n\n.\nx =\n1", "5: e"},
		{"local t = setmetatable({}, {__call = function()\nerror('e', 2) end})\nlocal x = 1 +\nt\n(\n)", "5: e"},
		{"local t = setmetatable({}, {__len = function()\nerror('e', 2) end})\nlocal x = 1 +\n#\nt", "4: e"},
		{"local t = setmetatable({}, {__eq = function()\nerror('e', 2) end})\nlocal x = t\n==\n{}", "4: e"},
		{"for i in function()\nerror('e', 2) end\ndo end", "1: e"},
		{"local function f()\nerror('e', 2) end\nlocal x = {\nf\n(\n)\n}", "5: e"},
	} {
		fails(t, c[0], c[1])
	}
}
