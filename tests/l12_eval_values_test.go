package tests

import (
	"strings"
	"testing"

	"loop.example/g00002/impl"
)

// counted are functions that give none, one and three values, and all that they get.
const counted = "local function none() end local function one() return 1 end local function three() return 1, 2, 3 end local function all(...) return ... end "

func TestEvaluateNumbersOfValues(t *testing.T) {
	t.Parallel()
	eachLine(t, counted, `
		none() =>
		one() => 1
		three() => 1 2 3
		all() =>
		all(nil) => nil
		all(nil, nil) => nil nil
		all(none()) =>
		all(three()) => 1 2 3
		all(three(), three()) => 1 1 2 3
		(none()) => nil
		(three()) => 1
		((three())) => 1
		none(), none() => nil
		none(), none(), none() => nil nil
		none(), 1 => nil 1
		1, none() => 1
		three(), 4 => 1 4
		0, three() => 0 1 2 3
		three(), three() => 1 1 2 3
		three(), (three()) => 1 1
		three(), none() => 1
		select('#', none()) => 0
		select('#', (none())) => 1
		select('#', none(), none()) => 1
		select('#', three(), three()) => 4
		select('#', all(nil, nil, nil)) => 3
		#{three()} => 3
		#{three(),} => 3
		#{three();} => 3
		#{three(), three()} => 4
		#{three(), 4} => 2
		#{(three())} => 1
		#{0, three()} => 4
		#{x = three(), three()} => 3
		#{three(), x = 1} => 1
		#{three(), [5] = 1} => 1
		#{three(), [2] = 7} => 2
		#{none()} => 0
		#{none(), 2} => 0
		({none(), 2})[2] => 2
		({none(), none(), 3})[3] => 3
		({x = three()}).x => 1
		({x = none()}).x => nil
		({[three()] = three()})[1] => 1
		one() + three() => 2
		-three() => -1
		three() .. three() => 11
		three() == three() => true
		not none() => true
		1 and three() => 1
		nil or three() => 1
		three() and none() => nil
		none() or three() => 1
		(three() or 4), 5 => 1 5
		(function(...) return ... end)() =>
		(function(...) return ... end)(1, nil, 3, nil) => 1 nil 3 nil
		(function(...) return (...) end)(1, 2) => 1
		(function(...) return (...) end)() => nil
		(function(...) return ..., ... end)(1, 2) => 1 1 2
		(function(...) return ..., 3 end)(1, 2) => 1 3
		(function(...) return ..., 3 end)() => nil 3
		(function(...) return #{...} end)(1, 2, 3) => 3
		(function(...) return #{..., ...} end)(1, 2, 3) => 4
		(function(...) return #{..., 4} end)(1, 2, 3) => 2
		(function(...) return #{...,} end)(1, 2, 3) => 3
		(function(...) return select('#', ...) end)(nil, nil) => 2
		(function(...) return -... end)(1, 2) => -1
		(function(...) return ... + ... end)(3, 4) => 6
		(function(...) local a, b = ... return b, a end)(1, 2, 3) => 2 1
		(function(...) local a, b = ..., 5 return b, a end)(1, 2) => 5 1
		(function(a, ...) return a, ... end)(1, 2, 3) => 1 2 3
		(function(a, b, ...) return select('#', ...), b end)(1) => 0 nil
		(function(a, b, ...) return select('#', ...), b end)(1, 2, nil) => 1 2
		(function(a) return a end)(1, 2) => 1
		(function(a, b) return a, b end)(1) => 1 nil
		(function(a, b) return a, b end)(none(), none()) => nil nil
		(function(a, b, c) return c end)(three()) => 3
		(function(a, a) return a end)(1, 2) => 2
		({f = function(self, ...) return ... end}):f(1, 2) => 1 2
		({f = function(...) return select('#', ...) end}):f() => 1
		({f = function(...) return select('#', ...) end}):f(three()) => 4
		({f = function(...) return select('#', ...) end}).f(three(), three()) => 4
		type'x', type{}, #type[[y]] => string table 6
	`)
	puts(t, counted+"local a, b, c = none() print(a, b, c) a, b, c = three() print(a, b, c) a, b = three() print(a, b, c) a, b, c = 0, three() print(a, b, c)",
		"nil\tnil\tnil\n1\t2\t3\n1\t2\t3\n0\t1\t2\n")
	puts(t, counted+"local a, b, c = three(), three() print(a, b, c) a, b, c = three(), 7 print(a, b, c) a, b, c = (three()) print(a, b, c)",
		"1\t1\t2\n1\t7\tnil\n1\tnil\tnil\n")
	puts(t, counted+"local a, b = one(), 2, three(), write('on ') print(a, b) a, b = 1, 2, write('and on ') print(a, b)", "on 1\t2\nand on 1\t2\n")
	puts(t, counted+"local t = {} t.a, t.b, t.c = three() print(t.a, t.b, t.c) t.a, t.b = none() print(t.a, t.b, t.c)", "1\t2\t3\nnil\tnil\t3\n")
	puts(t, "local function f(...) local t = {n = select('#', ...), ...} for i = 1, t.n do write(i, '=', rawtostring(t[i]), ' ') end end f() f(1) f(nil, 2, nil)", "1=1 1=nil 2=2 3=nil ")
	puts(t, "for a, b, c, d in (function(...) return ... end)(function(s, c) if not c then return s, c, 3 end end, 's') do print(a, b, c, d) end", "s\tnil\t3\tnil\n")
}

func TestEvaluateManyResults(t *testing.T) {
	t.Parallel()
	for _, count := range []int{0, 1, 99, 100, 101, 1000} {
		limits := plenty()
		got := ran(t, "local t = {} for i = 1, "+intLitText(count)+" do t[i] = i end return table.unpack(t)", limits)
		if got.Code != 0 || len(got.Results) != min(count, 100) || count > 0 && got.Results[len(got.Results)-1] != intLitText(min(count, 100)) {
			t.Errorf("%d values: %s", count, outcomeText(got))
		}
	}
	got := ran(t, "return nil, "+times("{}, ", 150)+"1", plenty())
	if len(got.Results) != 100 || got.Results[0] != "nil" || got.Results[99] != "table: 104" {
		t.Errorf("%s", outcomeText(got))
	}
	// More values than a call takes can be returned, and put into a table.
	gives(t, "local function f(n) if n == 0 then return end return 0, table.unpack({}, 1, 999) end local function g() return 1, f(1) end return #{g()}, (g())", "2 1")
	gives(t, "local function f() return 1, (function() return table.unpack({n = 1, 5}, 1, 1000) end)() end local t = {f()} return t[1], t[2], t[1001], #t", "1 5 nil 2")
	gives(t, "local function f() return 1, (function(...) return ... end)(string.byte(('x'):rep(1000), 1, -1)) end return #{f()}, #{f(), f()}, (select(2, pcall(function() return select('#', f()) end)))",
		"1001 1002 1: too many values")
	gives(t, "local function f(n) if n == 0 then return end return n, f(n - 1) end return #{f(150)}, (f(150))", "150 150")
	gives(t, "local function f(n) if n == 0 then return string.byte(('x'):rep(1000), 1, -1) end return n, f(n - 1) end return #{f(150)}", "1150")
}

func intLitText(n int) string { return litText(intLit(n)) }

func TestEvaluateTooManyValues(t *testing.T) {
	t.Parallel()
	const ahead = "local t = {} local function f(...) return select('#', ...) end local function up(n) return table.unpack(t, 1, n) end "
	eachLine(t, ahead, `
		f(up(999)) => 999
		f(up(1000)) => ! 1: too many values
		f(1, up(999)) => ! 1: too many values
	`)
	const counts = "local function f(...) local n = 0 for i = 1, 1 do local t = {...} n = t[1] end return n end local t = {} local function up(n) return 7, table.unpack(t, 2, n) end "
	eachLine(t, counts, `
		f(up(1000)) => 7
		f(1, up(999)) => 1
		f(1, up(1000)) => ! 1: too many values
		(f(1, up(1000))) => ! 1: too many values
		type(up(1000)) => number
		type(1, up(1000)) => ! 1: too many values
		(type(1, up(1000))) => ! 1: too many values
		pcall(f, up(999)) => true 7
		pcall(f, up(1000)) => ! 1: too many values
		pcall(pcall, f, up(998)) => true true 7
		pcall(pcall, f, up(999)) => ! 1: too many values
		select(2, pcall(function() return f(1, up(1000)) end)) => 1: too many values
		setmetatable({}, {__call = f})(up(999)) == 7 => false
		setmetatable({}, {__call = f})(up(1000)) => ! 1: too many values
		pcall(setmetatable({}, {__call = f}), up(999)) == true => true
		setmetatable({}, {__call = setmetatable({}, {__call = f})})(up(999)) => ! 1: too many values
		({f = f}):f(up(999)) == 7 => false
		({f = f}):f(up(1000)) => ! 1: too many values
		coroutine.resume(coroutine.create(f), up(999)) => true 7
		coroutine.resume(coroutine.create(f), up(1000)) => ! 1: too many values
		#{coroutine.resume(coroutine.create(function() coroutine.yield(up(1000)) end))} => 2
		#{coroutine.wrap(function() coroutine.yield(up(999)) end)()} => 1
		#{coroutine.wrap(function() coroutine.yield(up(1000)) end)()} => ! 56: too many values
		coroutine.wrap(function() coroutine.yield(1, up(1000)) end)() => ! 1: too many values
		string.char(up(1000)) == '' => ! 1: bad argument #2 to 'string.char' (number expected, got nil)
		x(1, up(1000)) => ! 1: attempt to call a nil value
	`)
}

func TestEvaluateAndOrNot(t *testing.T) {
	t.Parallel()
	eachLine(t, "", `
		nil and error() => nil
		false and error() => false
		0 and 1 => 1
		'' and 1 => 1
		1 and nil => nil
		1 and false => false
		1 or error() => 1
		0 or error() => 0
		'' or error() =>
		nil or false => false
		false or nil => nil
		nil or 1 => 1
		nil and nil => nil
		false or false => false
		true and true or error() => true
		nil and 1 or 2 => 2
		1 and nil or 2 => 2
		1 and 2 or 3 => 2
		nil or nil and 1 => nil
		not nil => true
		not false => true
		not true => false
		not 0 => false
		not '' => false
		not 0.0 => false
		not {} => false
		not print => false
		not not nil => false
		not not 1 => true
		not 1 == 2 => false
		(nil and 1) == nil => true
		1 < 2 and 2 < 3 => true
		nil == false => false
	`)
}

// said writes a value as it is evaluated.
const said = "local function p(...) for i = 1, select('#', ...) do write(rawtostring((select(i, ...))), ' ') end return ... end "

func TestEvaluateOrder(t *testing.T) {
	t.Parallel()
	for _, c := range [][2]string{
		{"local x = p(1) + p(2) * p(3)", "1 2 3 "},
		{"local x = (p(1) + p(2)) * p(3)", "1 2 3 "},
		{"local x = p(2) ^ p(1) ^ p(3)", "2 1 3 "},
		{"local x = p('a') .. p('b') .. p('c')", "a b c "},
		{"local x = p(1) < p(2)", "1 2 "},
		{"local x = p(1) > p(2)", "1 2 "},
		{"local x = p(1) >= p(2)", "1 2 "},
		{"local x = p(1) == p(2)", "1 2 "},
		{"local x = p(1) ~= p(2)", "1 2 "},
		{"local x = p(1) and p(2) or p(3)", "1 2 "},
		{"local x = p(nil) and p(2) or p(3)", "nil 3 "},
		{"local x = p(p)(p(1), p(2))", "function: 22 1 2 1 2 "},
		{"p(p(1), p(2), p(3, 4))", "1 2 3 4 1 2 3 4 "},
		{"local x = p({7})[p(1)]", "table: 6 1 "},
		{"local x = p('x').rep(p('y'), p(2))", "x y 2 "},
		{"local x = {p(1), [p(2)] = p(3), p(4), x = p(5), p(6, 7)}", "1 2 3 4 5 6 7 "},
		{"local t = {} p(t)[p(1)], p(t)[p(2)] = p(3), p(4)", "table: 6 1 table: 6 2 3 4 "},
		{"local a, b = p(1), p(2), p(3)", "1 2 3 "},
		{"local a = p(1), p(2)", "1 2 "},
		{"return p(1), p(2), p(3)", "1 2 3 "},
		{"for i = p(1), p(2), p(3) do write('turn') end", "1 2 3 turn"},
		{"for i in p(next), p({}), p(nil), p(4), p(5) do end", "builtin: next table: 6 nil 4 5 "},
		{"if p(nil) then elseif p(false) then elseif p(1) then p(2) elseif p(3) then else p(4) end", "nil false 1 2 "},
		{"local n = 0 while p(n) < 2 do n = n + 1 end", "0 1 2 "},
		{"local n = 0 repeat n = n + 1 until p(n) == 2", "1 2 "},
		{"local o = setmetatable({}, {__index = function(t, k) write('index ') return p end}) p(o):m(p(1))", "table: 6 index 1 table: 6 1 "},
		{"local o = setmetatable({}, {__newindex = function(t, k, v) write(k, '=', v, ' ') end}) o.a, o.b, o.c = p(1), p(2), p(3)", "1 2 3 a=1 b=2 c=3 "},
		{"local m = {__concat = function(a, b) write('join ') return 'j' end} local o = setmetatable({}, m) local x = p('a') .. p('b') .. o .. p('c') write(x)", "a b c join abj"},
		{"local m = {__lt = function(a, b) write(rawtostring(a), '<', rawtostring(b)) end} local o = setmetatable({}, m) local x = p(1) > p(o)", "1 table: 7 table: 7<1"},
		{"local m = {__le = function(a, b) write(rawtostring(a), '<=', rawtostring(b)) end} local o = setmetatable({}, m) local x = p(o) >= p(1)", "table: 7 1 1<=table: 7"},
	} {
		puts(t, said+c[0], c[1])
	}
	// What was evaluated stays so, whatever is evaluated behind it.
	eachLine(t, "local a, t = 1, {1, 2, 3} local function set(v) a = v return v end ", `
		a + set(5) => 6
		set(5) + a => 10
		a .. set(5) .. a => 155
		a == set(5) => false
		#{a, set(5), a} => 3
		a, set(5), a => 1 5 5
		t[a], t[set(3)], t[a] => 1 3 3
	`)
	puts(t, "local a, i = {}, 1 i, a[i] = i + 1, 20 print(i, a[1], a[2])", "2\t20\tnil\n")
	puts(t, "local a, b = 1, 2 a, b = b, a print(a, b)", "2\t1\n")
	puts(t, "local t = {1, 2} local i = 1 i, t[i], t[i + 1] = 2, 'x', 'y' print(i, t[1], t[2])", "2\tx\ty\n")
	puts(t, "local t = {} local u = t t, t.x = {}, 1 print(t == u, t.x, u.x)", "false\tnil\t1\n")
	puts(t, "a, a, a = 1, 2, 3 print(a) local b b, b = 4, 5 print(b) local t = {} t.x, t.x = 6, 7 print(t.x)", "3\n5\n7\n")
	puts(t, "local t = setmetatable({}, {__newindex = function(t, k, v) write(k, v, ' ') end}) t.a, x, t.b, y = 1, 2, 3, 4 print(x, y)", "a1 b3 2\t4\n")
}

// numberForms are expressions by the texts of the numbers that they give.
func numberForms() map[string]string {
	forms := map[string]string{
		"nan": "(0/0)", "inf": "math.huge", "-inf": "(-math.huge)", "-0.0": "(-0.0)", "-9223372036854775808": "math.mininteger", "9223372036854775807": "math.maxinteger",
		"-1": "(-1)", "-7": "(-7)", "-2.5": "(-2.5)", "-9007199254740993": "(-9007199254740993)", "-9223372036854775808.0": "(-9223372036854775808.0)",
	}
	for _, text := range strings.Fields("0 1 2 3 7 63 64 65 0.0 0.5 1.0 2.5 1e300 5e-324 9007199254740993 9007199254740992.0 9223372036854775808.0 1023 1024") {
		forms[text] = text
	}
	return forms
}

// Promise 2: what the functions of chapter 2 give is what a program gives.
func TestEvaluateNumbersAsArith(t *testing.T) {
	t.Parallel()
	signs := strings.Fields("+ - * / % // ^ & | ~ << >>")
	messages := map[int]string{impl.NumZero: "attempt to divide by zero", impl.NumRange: "exponent out of range", impl.NumWhole: "number has no integer representation"}
	for a, left := range numberForms() {
		source, want := "local function s(f, ...) local ok, v = pcall(f, ...) write(rawtostring(v), '\\n') end local function t(v) write(rawtostring(v), '\\n') end\n", ""
		for b, right := range numberForms() {
			for i, sign := range signs {
				source += "s(function() return " + left + sign + right + " end)\n"
				text, code := impl.Arith(i+1, a, b)
				if code != 0 {
					text = intLitText(strings.Count(source, "\n")) + ": " + messages[code]
				}
				want += text + "\n"
			}
			order, _ := impl.Compare(a, b)
			for _, c := range []struct {
				sign  string
				holds bool
			}{
				{"<", order == -1}, {"<=", order == -1 || order == 0}, {">", order == 1}, {">=", order == 1 || order == 0}, {"==", order == 0}, {"~=", order != 0},
			} {
				source += "t(" + left + c.sign + right + ")\n"
				want += litText(boolLit(c.holds)) + "\n"
			}
		}
		for i, sign := range []string{"-", "~"} {
			source += "s(function() return " + sign + left + " end)\n"
			text, code := impl.Arith(impl.NumNeg+i, a, "")
			if code != 0 {
				text = intLitText(strings.Count(source, "\n")) + ": " + messages[code]
			}
			want += text + "\n"
		}
		text, code := impl.ToInteger(a)
		if code != 0 {
			text = "nil"
		}
		puts(t, source+"t(math.tointeger("+left+"))", want+text+"\n")
	}
}
