package tests

import (
	"slices"
	"strings"
	"testing"

	"loop.example/g00002/impl"
)

func TestEvaluateBeginning(t *testing.T) {
	t.Parallel()
	const list = "local function list(t) for k, v in next, t do write(k, '=', rawtostring(v), ' ') end end "
	builtins := func(part, names string) string {
		text := ""
		for _, name := range strings.Fields(names) {
			text += name + "=builtin: " + part + name + " "
		}
		return text
	}
	puts(t, list+"list(_G)", "_G=table: 1 "+
		builtins("", "type rawtostring tonumber rawequal rawlen select rawget rawset next rawmeta setmetatable getmetatable write error pcall load collectgarbage")+
		"string=table: 2 math=table: 3 table=table: 4 coroutine=table: 5 tostring=function: 2 print=function: 3 ipairs=function: 5 pairs=function: 6 assert=function: 7 xpcall=function: 8 ")
	puts(t, list+"list(string)", builtins("string.", "len sub upper lower rep reverse byte char find match rawgsub format")+"gmatch=function: 13 gsub=function: 14 ")
	puts(t, list+"list(math)", builtins("math.", "floor abs tointeger type ult")+
		"maxinteger=9223372036854775807 mininteger=-9223372036854775808 huge=inf ceil=function: 10 max=function: 11 min=function: 12 ")
	puts(t, list+"list(table)", builtins("table.", "unpack")+"pack=function: 15 concat=function: 16 insert=function: 17 remove=function: 18 move=function: 19 sort=function: 20 ")
	puts(t, list+"list(coroutine)", builtins("coroutine.", "create resume yield status running isyieldable close")+"wrap=function: 9 ")
	puts(t, "x = 1 for k in next, _G do if k == 'xpcall' then write(next(_G, k)) end end", "x1")
	gives(t, "return rawmeta(_G), rawmeta(string), rawmeta(''), _G._G == _G, _G.string == string, ('').len == string.len", "nil nil nil true true true")
	// The table of the beginning is that in which strings are looked up, whatever its name stands for later.
	gives(t, "local old = string string = {len = 1} return ('x').len, ('abc'):len()", "builtin: string.len 3")
	gives(t, "string.twice = function(s) return s .. s end return ('ab'):twice()", "abab")
	gives(t, "string.len = nil return ('ab').len, setmetatable(string, {__index = function() return 1 end}) == string, ('ab').x", "nil true nil")
}

func TestEvaluateShows(t *testing.T) {
	t.Parallel()
	for _, name := range strings.Fields(runOrder) {
		gives(t, "return rawtostring("+name+"), tostring("+name+"), "+name, strings.Join([]string{"builtin: " + name, "builtin: " + name, "builtin: " + name}, " "))
	}
	eachLine(t, "", `
		{}, {}, {{}} => table: 6 table: 7 table: 8
		rawtostring({}), rawtostring({{}}), rawtostring({}) => table: 6 table: 7 table: 9
		tostring(_G), tostring(string), tostring(math), tostring(table), tostring(coroutine) => table: 1 table: 2 table: 3 table: 4 table: 5
		function() end, function() end => function: 22 function: 23
		(function() return function() end end)() => function: 23
		print, tostring, coroutine.wrap, table.sort => function: 3 function: 2 function: 9 function: 20
		load('') => function: 22
		load('return function() end')() => function: 23
		coroutine.running() => thread: 1 true
		coroutine.create(print), (coroutine.running()), coroutine.create(type) => thread: 2 thread: 1 thread: 3
		coroutine.wrap(print) => function: 23
		tostring(nil), tostring(true), tostring(false), tostring(12), tostring(-0.0), tostring('x') => nil true false 12 -0.0 x
		tostring(1e100), tostring(2^53), tostring(0/0), tostring(math.huge) => 1e+100 9007199254740992.0 nan inf
		tostring() => nil
		tostring(setmetatable({}, {__tostring = function(o) return 'mine' end})) => mine
		tostring(setmetatable({}, {__tostring = function(...) return select('#', ...) .. '' end})) => 1
		tostring(setmetatable({}, {__tostring = rawtostring})) => table: 6
		tostring(setmetatable({}, {__tostring = false})) => table: 6
		tostring(setmetatable({}, {__name = 'x', __index = {__tostring = print}})) => table: 6
		tostring(setmetatable({}, {__tostring = function() return 5 end})) => ! '__tostring' must return a string
		(tostring(setmetatable({}, {__tostring = function() return 5 end}))) => ! 1: '__tostring' must return a string
		tostring(setmetatable({}, {__tostring = 5})) => ! 9: attempt to call a number value
		string.format('%s %s', {}, print), string.format('%s', setmetatable({}, {__tostring = function() return 'mine' end})) => table: 6 function: 3 table: 7
		string.format('%.3s|%8s|%-8s|', print, type, {}) => fun|builtin: type|table: 6|
		string.format('%q', {}) => ! 1: bad argument #2 to 'string.format' (value has no literal form)
		string.format('%s%q', 1, print) => ! 1: bad argument #3 to 'string.format' (value has no literal form)
		string.format('%q', type) => ! 1: bad argument #2 to 'string.format' (value has no literal form)
		string.format('%q', coroutine.create(print)) => ! 1: bad argument #2 to 'string.format' (value has no literal form)
		string.format('%d', {}) => ! 1: bad argument #2 to 'string.format' (number expected, got table)
		string.format({}) => ! 1: bad argument #1 to 'string.format' (string expected, got table)
		type({}), type(print), type(type), type(coroutine.create(type)) => table function function thread
		tonumber({}), tonumber(print), tonumber(type), math.type({}), math.tointeger(type) => nil nil nil nil nil
		tonumber({}, 10) => ! 1: bad argument #1 to 'tonumber' (string expected, got table)
		tonumber('1', type) => ! 1: bad argument #2 to 'tonumber' (number expected, got function)
		rawequal(type, type), rawequal(type, rawlen), rawequal({}, {}), rawequal(print, print), rawequal(type, 'type') => true false false true false
		select(2, {}, print, type) => function: 3 builtin: type
		select(-1, {}, coroutine.running()) => true
		select({}) => ! 1: bad argument #1 to 'select' (number expected, got table)
		string.rep(type, 2) => ! 1: bad argument #1 to 'string.rep' (string expected, got function)
		('x'):rep(coroutine.running()) => ! 1: bad argument #2 to 'string.rep' (number expected, got thread)
		string.char({}) => ! 1: bad argument #1 to 'string.char' (number expected, got table)
		math.floor(type) => ! 1: bad argument #1 to 'math.floor' (number expected, got function)
		string.find('x', type) => ! 1: bad argument #2 to 'string.find' (string expected, got function)
	`)
}

// behindUlt are the primitives behind math.ult with arguments that are right; those without any take none, or any number.
var behindUlt = map[string][]string{
	"rawlen": {"{1, 2}"}, "rawget": {"{5}", "1"}, "rawset": {"{}", "'k'", "1"}, "next": {"{a = 1, b = 2}", "'a'"}, "rawmeta": {"setmetatable({}, {})"}, "setmetatable": {"{}", "{}"},
	"getmetatable": {"setmetatable({}, {})"}, "write": {"'a'", "1", "'b'"}, "error": {"'e'", "1"}, "pcall": {"type", "1"}, "load": {"'return 1'"}, "collectgarbage": {"'step'", "1"},
	"table.unpack": {"{1, 2, 3}", "1", "2"}, "coroutine.create": {"print"}, "coroutine.resume": {"coroutine.create(type)", "1"}, "coroutine.yield": {}, "coroutine.status": {"coroutine.create(type)"},
	"coroutine.running": {}, "coroutine.isyieldable": {}, "coroutine.close": {"coroutine.create(type)"},
}

// Each primitive with ever more arguments, and each kind of value at each place; the model knows what is wrong.
func TestEvaluateArguments(t *testing.T) {
	t.Parallel()
	if len(behindUlt) != len(runForms) {
		t.Fatal("some primitive isn't looked at")
	}
	values := []string{"nil", "true", "false", "0", "1", "-1", "1.5", "2.0", "0/0", "math.huge", "math.mininteger", "''", "'x'", "'1'", "{}", "{1, 2, nil, 4}", "setmetatable({}, {__metatable = 5})",
		"setmetatable({}, {__call = print})", "print", "type", "(coroutine.running())", "coroutine.create(print)", "(function(...) return ... end)", "'collect'", "'count'", "'stop'", "'restart'", "'steps'"}
	for name, right := range behindUlt {
		source := "local function s(f) local t = table.pack(pcall(f)) for i = 1, t.n do write(rawtostring(t[i]), ' ') end write('\\n') end "
		add := func(args []string) {
			source += "\ns(function() return " + name + "(" + strings.Join(args, ", ") + ") end)"
		}
		for count := range len(right) + 1 {
			add(right[:count])
		}
		add(append(slices.Clone(right), "nil", "{}", "5"))
		for i := range len(right) + 1 {
			for _, v := range values {
				args := append(slices.Clone(right), "9")
				args[i] = v
				add(args)
				add(args[:i+1])
			}
		}
		if got := ran(t, source, plenty()); got.Code != 0 || strings.Count(got.Output, "\n") < 5 {
			t.Errorf("%s: %s", name, outcomeText(got))
		}
	}
}

func TestEvaluateTablePrimitives(t *testing.T) {
	t.Parallel()
	eachLine(t, "", `
		rawlen({1, 2, 3}), rawlen({}), rawlen('abc'), rawlen(''), rawlen({1, nil, 3}) => 3 0 3 0 1
		rawlen(setmetatable({1}, {__len = function() return 9 end})) => 1
		rawlen() => ! 1: bad argument #1 to 'rawlen' (table expected, got no value)
		rawlen(nil) => ! 1: bad argument #1 to 'rawlen' (table expected, got nil)
		rawlen(12) => ! 1: bad argument #1 to 'rawlen' (table expected, got number)
		rawlen(print) => ! 1: bad argument #1 to 'rawlen' (table expected, got function)
		rawget({5, x = 6}, 1), rawget({5, x = 6}, 'x'), rawget({5}, 1.0), rawget({}, nil), rawget({}, 0/0) => 5 6 5 nil nil
		rawget(setmetatable({}, {__index = error}), 1) => nil
		rawget() => ! 1: bad argument #1 to 'rawget' (table expected, got no value)
		rawget({}) => ! 1: bad argument #2 to 'rawget' (value expected)
		rawget('x', 1) => ! 1: bad argument #1 to 'rawget' (table expected, got string)
		rawset({}, 'x', 5).x, rawset({}, 1.0, 6)[1], rawset({x = 1}, 'x', nil).x => 5 6 nil
		rawget(rawset(setmetatable({}, {__newindex = error}), 1, 2), 1) => 2
		rawset() => ! 1: bad argument #1 to 'rawset' (table expected, got no value)
		rawset({}) => ! 1: bad argument #2 to 'rawset' (value expected)
		rawset({}, 1) => ! 1: bad argument #3 to 'rawset' (value expected)
		rawset({}, nil) => ! 1: bad argument #3 to 'rawset' (value expected)
		rawset({}, nil, 1) => ! 1: table index is nil
		rawset({}, nil, nil) => ! 1: table index is nil
		rawset({}, 0/0, 1) => ! 1: table index is NaN
		rawset(1, nil, 1) => ! 1: bad argument #1 to 'rawset' (table expected, got number)
		rawmeta(1), rawmeta('x'), rawmeta({}), rawmeta(print), rawmeta(nil) => nil nil nil nil nil
		rawmeta(setmetatable({}, {__metatable = 5})) => table: 7
		rawmeta() => ! 1: bad argument #1 to 'rawmeta' (value expected)
		getmetatable(setmetatable({}, {})), getmetatable({}), getmetatable('x') => table: 7 nil nil
		getmetatable(setmetatable({}, {__metatable = 5})), getmetatable(setmetatable({}, {__metatable = false})) => 5 false
		getmetatable() => ! 1: bad argument #1 to 'getmetatable' (value expected)
		setmetatable({}, nil), setmetatable({}, {}) => table: 6 table: 7
		setmetatable({}) => ! 1: bad argument #2 to 'setmetatable' (nil or table expected, got no value)
		setmetatable({}, 1) => ! 1: bad argument #2 to 'setmetatable' (nil or table expected, got number)
		setmetatable({}, false) => ! 1: bad argument #2 to 'setmetatable' (nil or table expected, got boolean)
		setmetatable() => ! 1: bad argument #1 to 'setmetatable' (table expected, got no value)
		setmetatable(1, 1) => ! 1: bad argument #1 to 'setmetatable' (table expected, got number)
		setmetatable('x', {}) => ! 1: bad argument #1 to 'setmetatable' (table expected, got string)
		setmetatable(setmetatable({}, {__metatable = 5}), {}) => ! 1: cannot change a protected metatable
		setmetatable(setmetatable({}, {__metatable = false}), nil) => ! 1: cannot change a protected metatable
		setmetatable(setmetatable({}, {__metatable = 5}), 5) => ! 1: bad argument #2 to 'setmetatable' (nil or table expected, got number)
		rawmeta(setmetatable(setmetatable({}, {}), nil)) => nil
		rawmeta(setmetatable(setmetatable({}, {}), {x = 1})).x => 1
		setmetatable({}, setmetatable({}, {__index = {__metatable = 5}})) == nil => false
		rawmeta(setmetatable({}, {__mode = 'k', __gc = print})).__mode => k
		#setmetatable({1, 2}, {__mode = 'kv'}), setmetatable({x = 1}, {__mode = 5, __gc = 5}).x => 2 1
		table.unpack({1, 2, 3}) => 1 2 3
		table.unpack({}) =>
		table.unpack({1, 2, 3}, 2) => 2 3
		table.unpack({1, 2, 3}, 2, 3) => 2 3
		table.unpack({1, 2, 3}, -1, 1) => nil nil 1
		table.unpack({1, 2, 3}, 3, 2) =>
		table.unpack({1, 2, 3}, nil, 2) => 1 2
		table.unpack({1, 2, 3}, 2, nil) => 2 3
		table.unpack({1, 2}, 2.0, 3.0) => 2 nil
		select('#', table.unpack({}, 1, 5)) => 5
		table.unpack({1, nil, 3}) => 1
		table.unpack(setmetatable({1}, {__index = error, __len = error})) => 1
		table.unpack({}, math.maxinteger, math.maxinteger) => nil
		table.unpack({}, math.mininteger, math.mininteger) => nil
		table.unpack({}, math.maxinteger, math.mininteger) =>
		table.unpack({[math.maxinteger] = 7}, math.maxinteger - 1, math.maxinteger) => nil 7
		table.unpack({}, math.mininteger, math.maxinteger) => ! 1: too many values
		table.unpack({}, 0, math.maxinteger) => ! 1: too many values
		table.unpack({}, 1, 1001) => ! 1: too many values
		#{table.unpack({5}, 1, 1000)} => 1
		table.unpack() => ! 1: bad argument #1 to 'table.unpack' (table expected, got no value)
		table.unpack('x') => ! 1: bad argument #1 to 'table.unpack' (table expected, got string)
		table.unpack({}, 'x') => ! 1: bad argument #2 to 'table.unpack' (number expected, got string)
		table.unpack({}, 1, 1.5) => ! 1: bad argument #3 to 'table.unpack' (number has no integer representation)
		next({}), next({5}), next({x = 6}) => nil 1 x 6
		next({5, 6}, 1) => 2 6
		next({5, 6}, 2) => nil
		next({5, 6}, 1.0) => 2 6
		next({5, 6}, nil) => 1 5
		next({5, 6}, 3) => ! 1: invalid key to 'next'
		next({5, 6}, 0/0) => ! 1: invalid key to 'next'
		next({5, 6}, '1') => ! 1: invalid key to 'next'
		next({}, {}) => ! 1: invalid key to 'next'
		next() => ! 1: bad argument #1 to 'next' (table expected, got no value)
		next(1, 2) => ! 1: bad argument #1 to 'next' (table expected, got number)
		collectgarbage(), collectgarbage('collect'), collectgarbage('count'), collectgarbage('stop'), collectgarbage('restart') => 0 0 0 0 0
		collectgarbage('step'), collectgarbage('step', 5), collectgarbage('step', -1.0), collectgarbage(nil, nil), collectgarbage('count', 7) => true true true 0 0
		collectgarbage('x') => ! 1: bad argument #1 to 'collectgarbage' (invalid option)
		collectgarbage('') => ! 1: bad argument #1 to 'collectgarbage' (invalid option)
		collectgarbage('Collect') => ! 1: bad argument #1 to 'collectgarbage' (invalid option)
		collectgarbage(5) => ! 1: bad argument #1 to 'collectgarbage' (invalid option)
		collectgarbage('x', 1.5) => ! 1: bad argument #2 to 'collectgarbage' (number has no integer representation)
		collectgarbage('x', 'y') => ! 1: bad argument #2 to 'collectgarbage' (number expected, got string)
		collectgarbage('collect', {}) => ! 1: bad argument #2 to 'collectgarbage' (number expected, got table)
		collectgarbage({}, {}) => ! 1: bad argument #1 to 'collectgarbage' (string expected, got table)
		collectgarbage(true) => ! 1: bad argument #1 to 'collectgarbage' (string expected, got boolean)
		math.type(collectgarbage('count')) => integer
	`)
	puts(t, "write() write('a', 1, 2.5, '') write(-0.0, 1e300)", "a12.5-0.01e+300")
	gives(t, "return select('#', write())", "0")
	fails(t, "write('a', nil)", "1: bad argument #2 to 'write' (string expected, got nil)")
	fails(t, "write(true)", "1: bad argument #1 to 'write' (string expected, got boolean)")
	fails(t, "write('a', {}, nil)", "1: bad argument #2 to 'write' (string expected, got table)")
	fails(t, "write(type)", "1: bad argument #1 to 'write' (string expected, got function)")
}

// The order of entries is that of their first coming, for as long as they aren't taken out.
func TestEvaluateOrderOfEntries(t *testing.T) {
	t.Parallel()
	const ahead = "local function list(t) for k, v in next, t do write(k, v, ' ') end write('\\n') end local function fill(n) local t = {} for i = 1, n do t['k' .. i] = i end return t end "
	for _, r := range [][2]string{
		{"list({a = 1, 5, b = 2, 6, [10] = 3, c = 4})", "a1 15 b2 26 103 c4 \n"},
		{"local t = {a = 1, b = 2, c = 3} t.b = nil list(t) t.d = 4 list(t) t.b = 5 list(t)", "a1 c3 \na1 c3 d4 \na1 b5 c3 d4 \n"},
		{"local t = {a = 1, b = 2} t.a = nil t.b = nil list(t) t.b = 3 t.a = 4 list(t)", "\na4 b3 \n"},
		{"local t = {3, 2, 1} t[1], t[3] = nil list(t) t[1] = 7 list(t)", "22 \n17 22 \n"},
		{"local t = {} t[3] = 1 t[1] = 2 t[2] = 3 list(t) print(#t)", "31 12 23 \n3\n"},
		{"local t = fill(15) for i = 1, 15 do t['k' .. i] = nil end t.x = 1 t.k1 = 2 list(t)", "k12 x1 \n"},
		{"local t = fill(16) for i = 1, 8 do t['k' .. i] = nil end t.x = 1 t.k1 = 2 list(t)", "k12 k99 k1010 k1111 k1212 k1313 k1414 k1515 k1616 x1 \n"},
		{"local t = fill(16) for i = 1, 9 do t['k' .. i] = nil end t.k1 = 2 t.k1 = nil t.x = 1 t.k1 = 2 list(t)", "k1010 k1111 k1212 k1313 k1414 k1515 k1616 x1 k12 \n"},
		{"local t = fill(16) for i = 1, 9 do t['k' .. i] = nil end t.x = nil t.k1 = 2 list(t)", "k12 k1010 k1111 k1212 k1313 k1414 k1515 k1616 \n"},
		{"local t = fill(17) for i = 1, 9 do t['k' .. i] = nil end t.x = 1 print(pcall(next, t, 'k1')) print(pcall(next, t, 'k10'))", "false\tinvalid key to 'next'\ntrue\tk11\t11\n"},
		{"local t = fill(17) for i = 1, 8 do t['k' .. i] = nil end t.x = 1 print(next(t, 'k1'))", "k9\t9\n"},
		{"local t = fill(20) for k in next, t do t[k] = nil end print(next(t)) t.x = 1 print(next(t)) print(pcall(next, t, 'k3'))", "nil\nx\t1\nfalse\tinvalid key to 'next'\n"},
		{"local t = fill(4) for k, v in next, t do t[k] = v + 10 if k == 'k2' then t.k3 = nil end write(k, ' ') end list(t)", "k1 k2 k4 k111 k212 k414 \n"},
		{"local t = {} for i = 1, 40 do t[i] = i t[i] = nil end t.x = 1 list(t) print(#t)", "x1 \n0\n"},
	} {
		puts(t, ahead+r[0], r[1])
	}
}

// Lengths, held against a plain account of what stands at which integer.
func TestEvaluateLengths(t *testing.T) {
	t.Parallel()
	row := words(12000)
	for round := range 40 {
		account := map[int]int{}
		length := func() int {
			n := 0
			for account[n+1] != 0 {
				n++
			}
			return n
		}
		source, want := "local t = {} local function l() write(#t, ' ') end ", ""
		for step := range 250 {
			w := row[(round*281+step)%len(row)]
			k, v := int(w>>20%12), int(w>>40%4)
			switch {
			case w>>50%5 == 0:
				k = length() + int(w>>20%2)
			case w>>50%5 == 1:
				source += "l() "
				want += intLitText(length()) + " "
			}
			account[k] = v
			source += "t[" + intLitText(k) + "] = " + []string{"nil", "1", "2", "false"}[v] + " "
		}
		puts(t, source+"l()", want+intLitText(length())+" ")
	}
}

func TestEvaluatePreludeBasics(t *testing.T) {
	t.Parallel()
	for _, r := range [][2]string{
		{"print() print(nil) print(1, 'a', nil, true, 2.0) print(nil, nil)", "\nnil\n1\ta\tnil\ttrue\t2.0\nnil\tnil\n"},
		{"print(setmetatable({}, {__tostring = function() return 'mine' end}), {}, print)", "mine\ttable: 8\tfunction: 3\n"},
		{"for i, v in ipairs({'a', 'b', nil, 'd'}) do write(i, v, ' ') end", "1a 2b "},
		{"for i, v in ipairs({}) do write('no') end for i, v in ipairs({[0] = 1, [2] = 2}) do write('no') end", ""},
		{"for i, v in ipairs(setmetatable({}, {__index = function(t, k) if k < 4 then return k * k end end})) do write(i, '=', v, ' ') end", "1=1 2=4 3=9 "},
		{"for i, v in ipairs({false, 0}) do write(i, rawtostring(v), ' ') end", "1false 20 "},
		{"for i, v in ipairs('abc') do write('no') end", ""},
		{"print(select('#', ipairs({}))) local f, t, i = ipairs('x') print(type(f), t, i)", "3\nfunction\tx\t0\n"},
		{"local t = {5, x = 6} local f, s, c = pairs(t) print(f == next, s == t, c, select('#', pairs(t)))", "true\ttrue\tnil\t3\n"},
		{"for k, v in pairs({1, 2, x = 3}) do write(k, v, ' ') end", "11 22 x3 "},
		{"for k, v in pairs(setmetatable({}, {__pairs = function(t) return function(s, c) if c < 3 then return c + 1, s end end, 's', 0, 'more' end})) do write(k, v, ' ') end", "1s 2s 3s "},
		{"print(select('#', pairs(setmetatable({}, {__pairs = function() return 1, 2, 3, 4 end}))), select('#', pairs(setmetatable({}, {__pairs = function() end}))))", "3\t3\n"},
		{"print(pcall(pairs, 'x')) print(pcall(pairs, nil)) print(pcall(function() pairs(1) end))",
			"false\tattempt to iterate over a string value\nfalse\tattempt to iterate over a nil value\nfalse\t1: attempt to iterate over a number value\n"},
		{"print(math.ceil(1.5), math.ceil(-1.5), math.ceil(2), math.ceil(2.0), math.ceil(1e300), math.ceil(-0.5))", "2\t-1\t2\t2\t1e+300\t0\n"},
		{"print(math.max(1), math.max(1, 3, 2), math.max(1, 1.0), math.max(2.5, 1), math.min(3, 1, 2), math.min(1, 1.0), math.max('a', 'b'))", "1\t3\t1\t2.5\t1\t1\tb\n"},
		{"print(math.max(0/0, 1), math.max(1, 0/0), math.min(), math.max())", "nan\t1\tnil\tnil\n"},
		{"print(math.huge, math.maxinteger, math.mininteger)", "inf\t9223372036854775807\t-9223372036854775808\n"},
	} {
		puts(t, r[0], r[1])
	}
}

func TestEvaluatePreludeStrings(t *testing.T) {
	t.Parallel()
	for _, r := range [][2]string{
		{"for w in ('one two  three'):gmatch('%a+') do write(w, '.') end", "one.two.three."},
		{"for k, v in ('a=1, b=2'):gmatch('(%w)=(%w)') do write(k, v, ' ') end", "a1 b2 "},
		{"for p in ('abc'):gmatch('()') do write(p, ' ') end", "1 2 3 4 "},
		{"for w in ('abc'):gmatch('x*') do write('[', w, ']') end", "[][][][]"},
		{"for w in ('aab'):gmatch('^a') do write(w) end", "aa"},
		{"local f = ('ab'):gmatch('.') print(f(), f(), f(), f())", "a\tb\tnil\tnil\n"},
		{"print(('hello'):gsub('l', 'L')) print(('hello'):gsub('l', 'L', 1)) print(('hello'):gsub('x', 'y'))", "heLLo\t2\nheLlo\t1\nhello\t0\n"},
		{"print(('hello'):gsub('(e)(.)', '%2%1')) print(('abc'):gsub('', '-'))", "hlelo\t1\n-a-b-c-\t4\n"},
		{"print(('hello'):gsub('.', {h = 'H', l = false, o = 0})) print(('hello'):gsub('(l)(l)', {l = 'x'}))", "Hell0\t5\nhexo\t1\n"},
		{"print(('hello'):gsub('l', function(s) return s:upper() end)) print(('hello'):gsub('(h)(e)', function(a, b) return b .. a end))", "heLLo\t2\nehllo\t1\n"},
		{"print(('hello'):gsub('.', function(s) if s == 'l' then return nil end return 7 end)) print(('abc'):gsub('b', function() end))", "77ll7\t5\nabc\t1\n"},
		{"print(('abc'):gsub('', function() return '-' end)) print(('abc'):gsub('%w', {}, 2)) print(('abc'):gsub('%w', function() return 'x' end, 0))", "-a-b-c-\t4\nabc\t2\nabc\t0\n"},
		{"print(('abc'):gsub('()', function(p) return p end)) print(('x y'):gsub('%w', '%0%0', 1))", "1a2b3c4\t4\nxx y\t1\n"},
		{"print(('abc'):gsub('.', setmetatable({}, {__index = function(t, k) return k .. k end})))", "aabbcc\t3\n"},
		{"print(pcall(string.gsub, 'x', 'x', function() return {} end)) print(pcall(string.gsub, 'x', 'x', true))",
			"false\tinvalid value in a replacement\nfalse\tbad argument #3 to 'string.rawgsub' (string expected, got boolean)\n"},
		{"print(pcall(string.gsub)) print(pcall(string.gsub, 'x', 'x'))",
			"false\tbad argument #1 to 'string.rawgsub' (string expected, got nil)\nfalse\tbad argument #3 to 'string.rawgsub' (string expected, got nil)\n"},
	} {
		if strings.Contains(r[0], "pcall(string.gsub") {
			place := preludePlace(t, "return plain(s, p, r, most)")
			r[1] = strings.ReplaceAll(r[1], "false\tbad", "false\t"+place+"bad")
		}
		puts(t, r[0], r[1])
	}
}

func TestEvaluatePreludeTables(t *testing.T) {
	t.Parallel()
	for _, r := range [][2]string{
		{"local t = table.pack() print(t.n, #t) t = table.pack(1, nil, 3, nil) print(t.n, t[1], t[2], t[3], next(t))", "0\t0\n4\t1\tnil\t3\tn\t4\n"},
		{"print(table.concat({1, 2, 3}), table.concat({1, 2, 3}, ', '), table.concat({1, 2, 3}, '-', 2), table.concat({1, 2, 3}, '-', 2, 2), table.concat({}, 'x'), table.concat({1}, 'x', 2))", "123\t1, 2, 3\t2-3\t2\t\t\n"},
		{"print(table.concat({'a', 1.5, 'b'}, 7), table.concat(setmetatable({}, {__index = function(t, k) return k end, __len = function() return 3 end}), ','))", "a71.57b\t1,2,3\n"},
		{"print(pcall(table.concat, {1, {}, 3})) print(pcall(table.concat, {1}, '', 1, 2)) print(pcall(table.concat, {true}))",
			"false\tinvalid value in 'table.concat'\nfalse\tinvalid value in 'table.concat'\nfalse\tinvalid value in 'table.concat'\n"},
		{"local t = {} table.insert(t, 'a') table.insert(t, 'b') table.insert(t, 1, 'c') table.insert(t, 4, 'd') table.insert(t, 2, 'e') print(table.concat(t))", "ceabd\n"},
		{"local t = {1} table.insert(t, nil) table.insert(t, 1, nil) print(#t, t[1], t[2]) print(select('#', table.insert(t, 5)))", "0\tnil\t1\n0\n"},
		{"print(pcall(table.insert, {}, 2, 'x')) print(pcall(table.insert, {}, 0, 'x')) print(pcall(table.insert, {1, 2}, 4, 'x'))", "false\tposition out of bounds\nfalse\tposition out of bounds\nfalse\tposition out of bounds\n"},
		{"local t = {1, 2, 3, 4} print(table.remove(t), table.remove(t, 1), table.concat(t, ','), table.remove(t, 3), #t, table.remove(t, 2), table.remove(t), table.remove(t), #t)", "4\t1\t2,3\tnil\t2\t3\t2\tnil\t0\n"},
		{"print(table.remove({}), table.remove({}, 5), table.remove({[0] = 'z'}), pcall(table.remove, {1}, 3))", "nil\tnil\tz\tfalse\tposition out of bounds\n"},
		{"print(table.concat(table.move({1, 2, 3}, 1, 3, 2), ',')) print(table.concat(table.move({1, 2, 3, 4}, 2, 4, 1), ',')) print(table.concat(table.move({1, 2}, 1, 2, 3, {7, 8}), ','))", "1,1,2,3\n2,3,4,4\n7,8,1,2\n"},
		{"local t = {1, 2, 3} print(table.move(t, 1, 0, 5) == t, #t, table.move(t, 1, 3, 10) == t, t[12])", "true\t3\ttrue\t3\n"},
		{"local t = {5, 2, 8, 1, 9, 3} table.sort(t) print(table.concat(t, ' ')) table.sort(t, function(a, b) return a > b end) print(table.concat(t, ' '))", "1 2 3 5 8 9\n9 8 5 3 2 1\n"},
		{"local t = {'b', 'a', 'c', ''} table.sort(t) print(table.concat(t, ',')) t = {} table.sort(t) print(#t) t = {1} table.sort(t) print(t[1])", ",a,b,c\n0\n1\n"},
		{"local t = {} for i = 1, 9 do t[i] = {i % 3, i} end table.sort(t, function(a, b) return a[1] < b[1] end) for i = 1, 9 do write(t[i][2], ' ') end", "3 6 9 1 4 7 2 5 8 "},
		{"local t = {3, 1, 2, 'x'} print(pcall(table.sort, t)) print(t[1], t[2], t[3], t[4])", "false\t" + preludePlace(t, "return a < b end") + "attempt to compare string with number\n3\t1\t2\tx\n"},
		{"local t = {3, 1, 2} local n = 0 print(pcall(table.sort, t, function(a, b) n = n + 1 if n == 3 then error('stop', 0) end return a < b end)) print(table.concat(t, ' '))", "false\tstop\n3 1 2\n"},
		{"local t = {3, 1, 2} print(select('#', table.sort(t, function() return true end)), #t)", "0\t3\n"},
		{"local m = {__lt = function(a, b) return a.v < b.v end} local t = {} for i, v in ipairs({3, 1, 2}) do t[i] = setmetatable({v = v}, m) end table.sort(t) print(t[1].v, t[2].v, t[3].v)", "1\t2\t3\n"},
	} {
		puts(t, r[0], r[1])
	}
	// Promise 18 on rows of numbers, each with where it stood.
	row := words(3000)
	for round := range 20 {
		count := round * 3
		var numbers []int
		source := "local t = {"
		for i := range count {
			numbers = append(numbers, int(row[round*60+i]>>20%10)*1000+i)
			source += "{" + intLitText(numbers[i]/1000) + "," + intLitText(i) + "},"
		}
		slices.SortStableFunc(numbers, func(a, b int) int { return a/1000 - b/1000 })
		want := ""
		for _, n := range numbers {
			want += intLitText(n%1000) + " "
		}
		puts(t, source+"} table.sort(t, function(a, b) return a[1] < b[1] end) for i = 1, #t do write(t[i][2], ' ') end", want)
	}
}

// ofPrelude are the functions of the prelude with arguments that are right.
var ofPrelude = map[string][]string{
	"tostring": {"1"}, "print": {"1", "'a'"}, "ipairs": {"{1, 2}"}, "pairs": {"{1, 2}"}, "assert": {"1", "'m'"}, "xpcall": {"error", "rawtostring", "'e'"}, "coroutine.wrap": {"print"},
	"math.ceil": {"1.5"}, "math.max": {"1", "3", "2"}, "math.min": {"3", "1", "2"}, "string.gmatch": {"'a b'", "'%a'"}, "string.gsub": {"'abc'", "'b'", "'x'", "1"},
	"table.pack": {"1", "nil"}, "table.concat": {"{1, 2, 3}", "','", "1", "3"}, "table.insert": {"{1, 2}", "1", "5"}, "table.remove": {"{1, 2}", "1"}, "table.move": {"{1, 2, 3}", "1", "2", "2", "{}"},
	"table.sort": {"{3, 1, 2}", "function(a, b) return a > b end"},
}

// Each function of the prelude with ever more arguments, and each kind of value at each place, by the model.
func TestEvaluateArgumentsOfPrelude(t *testing.T) {
	t.Parallel()
	values := []string{"nil", "true", "false", "0", "1", "-1", "2.5", "math.huge", "0/0", "''", "'x'", "'2'", "{}", "{1, 2}", "{'b', 'a'}", "setmetatable({}, {__index = function() return 1 end, __len = function() return 2 end})",
		"setmetatable({}, {__call = function() return 'c' end})", "print", "type", "(coroutine.running())", "function(...) return ... end"}
	const show = "local function show(...) for i = 1, select('#', ...) do local v = (select(i, ...)) write(rawtostring(v), ' ') if type(v) == 'table' then for k, w in next, v do write(rawtostring(k), '=', rawtostring(w), ' ') end end end end "
	var texts []string
	for name, right := range ofPrelude {
		add := func(args []string) {
			texts = append(texts, show+"show(pcall(function()\nreturn "+name+"("+strings.Join(args, ", ")+") end))")
			if name == "string.gmatch" || name == "coroutine.wrap" {
				texts = append(texts, show+"show(pcall(function()\nreturn "+name+"("+strings.Join(args, ", ")+")('y') end))")
			}
		}
		for count := range len(right) + 1 {
			add(right[:count])
		}
		for i := range len(right) + 1 {
			for _, v := range values {
				args := append(slices.Clone(right), "9")
				args[i] = v
				add(args)
				add(args[:i+1])
			}
		}
	}
	limits := plenty()
	limits.Steps = 2000
	codes := map[int]int{}
	for _, source := range texts {
		got := impl.Evaluate(source, limits)
		if want := modelEvaluate(source, limits); !sameOutcome(got, want) {
			t.Errorf("%s\n%s, the model:\n%s", source, outcomeText(got), outcomeText(want))
		}
		codes[got.Code]++
	}
	if codes[0] < 1500 {
		t.Errorf("codes %v", codes)
	}
}
