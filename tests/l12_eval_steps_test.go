package tests

import (
	"strconv"
	"strings"
	"testing"

	"loop.example/g00002/impl"
)

// eachSteps holds texts against their steps: a line has a text, =>, and how many steps its statements and calls take.
func eachSteps(t *testing.T, lines string) {
	t.Helper()
	for _, line := range strings.Split(strings.TrimSpace(lines), "\n") {
		source, number, found := strings.Cut(line, "=>")
		if !found {
			t.Fatalf("no arrow in %q", line)
		}
		steps, err := strconv.Atoi(strings.TrimSpace(number))
		if err != nil {
			t.Fatal(err)
		}
		takes(t, strings.TrimSpace(source), steps)
	}
}

func TestEvaluateStepsOfStatements(t *testing.T) {
	t.Parallel()
	eachSteps(t, `
		=> 0
		;;; => 0
		-- nothing => 0
		::a:: => 0
		::a:: ; ::b:: ; => 0
		do ::a:: end => 1
		local x => 1
		local x, y, z = 1, 2 => 1
		local x <const> = 1 => 1
		local x <close> = nil => 1
		local function f() end => 1
		function f() end => 1
		f = {} function f.g() end function f:h() end => 3
		x = 1 => 1
		x, y = 1, 2, 3 => 1
		x = 1 + 2 * 3 .. 'a' => 1
		x = {1, 2, {3}} => 1
		x = function() y = 1 end => 1
		type(1) => 1
		type(type(type(1))) => 1
		do end => 1
		do do end do end end => 3
		do local x end local y => 3
		return => 1
		return 1, 2 => 1
		return type(1) => 1
		do return end => 2
		if x then end => 1
		if x then y = 1 end => 1
		if 1 then y = 1 end => 2
		if x then elseif y then else x = 1 y = 2 end => 3
		if x then elseif 1 then x = 1 else x = 1 y = 2 end => 2
		if x then elseif y then elseif z then end => 1
	`)
}

func TestEvaluateStepsOfLoops(t *testing.T) {
	t.Parallel()
	eachSteps(t, `
		while false do end => 1
		while false do x = 1 end => 1
		local i = 0 while i < 1 do i = i + 1 end => 4
		local i = 0 while i < 3 do i = i + 1 end => 8
		while true do break end => 2
		while true do do break end end => 3
		while true do return end => 2
		while true do goto a end ::a:: => 2
		repeat until true => 1
		repeat x = 1 until true => 2
		local i = 0 repeat i = i + 1 until i == 3 => 7
		repeat break until false => 2
		repeat local x <close> = nil until not x => 2
		repeat goto a ::a:: until true => 2
		for i = 1, 0 do end => 1
		for i = 1, 0 do x = 1 end => 1
		for i = 1, 1 do end => 2
		for i = 1, 3 do end => 4
		for i = 1, 3 do x = i end => 7
		for i = 3, 1, -1 do end => 4
		for i = 1, 2, 0.5 do end => 4
		for i = 1.0, 0.5 do end => 1
		for i = 1, 3 do break end => 3
		for i = 1, 3 do goto a ::a:: end => 7
		for i = 1, 2 do for j = 1, 2 do end end => 9
		for k in next, {} do end => 1
		for k in next, {1} do end => 2
		for k in next, {1, 2, 3} do end => 4
		for k in next, {1, 2, 3} do x = k end => 7
		for k in next, {1, 2, 3} do break end => 3
		for k in function() end do end => 2
		for k in function() return end do end => 3
		local n = 0 for k in function() n = n + 1 if n < 3 then return n end end do end => 15
		goto a ::a:: => 1
		do goto a end ::a:: => 2
		goto a x = 1 y = 2 ::a:: => 1
		local i = 0 ::a:: i = i + 1 if i < 3 then goto a end => 9
		local i = 0 ::a:: ::b:: i = i + 1 if i < 3 then goto b end => 9
	`)
}

func TestEvaluateStepsOfCalls(t *testing.T) {
	t.Parallel()
	eachSteps(t, `
		local function f() end f() => 3
		local function f() end f() f() => 5
		local function f() return 1 end local x = f() => 4
		local function f() end x = f(f(f())) => 5
		local function f() return 1 end x = f() + f() => 6
		local function f() end return f() => 3
		local function f() end return (f()) => 3
		local function g() end local function f() return g() end f() => 6
		local function f(n) if n > 0 then return f(n - 1) end end f(3) => 13
		(function() end)() => 2
		({f = function() end}).f() => 2
		({f = function() end}):f() => 2
		pcall(type, 1) => 1
		pcall(function() end) => 2
		pcall(pcall, pcall, function() end) => 2
		pcall(function() error() end) => 3
		pcall(error) => 1
		pcall(nil) => 1
		select(2, type(1), type(2)) => 1
		coroutine.resume(coroutine.create(function() end)) => 2
		coroutine.resume(coroutine.create(type), 1) => 1
		coroutine.create(function() end) => 1
		local c = coroutine.create(function() coroutine.yield() x = 1 end) coroutine.resume(c) coroutine.resume(c) => 6
		local c = coroutine.create(function() coroutine.yield() x = 1 end) coroutine.resume(c) coroutine.close(c) => 5
		load('') => 1
		load('')() => 2
		load('x = 1 y = 2')() => 4
		load('x =') => 1
		load('return load("return 1")')()() => 5
	`)
}

func TestEvaluateStepsOfMetatables(t *testing.T) {
	t.Parallel()
	const ahead = "local f = function() end local t = setmetatable({}, {__index = f, __newindex = f, __call = f, __add = f, __unm = f, __concat = f, __len = f, " +
		"__eq = f, __lt = f, __le = f, __close = f}) "
	for _, line := range strings.Split(`x = t.x
		x = t[1]
		t.x = 1
		t()
		t(1, 2)
		x = t + 1
		x = 1 + t
		x = -t
		x = t .. 'a'
		x = 1 .. t
		x = #t
		x = t == {}
		x = {} ~= t
		x = t < 1
		x = 1 <= t
		x = t > t
		x = t >= t
		return t()
		do x = t.x end y = 1
		local x <close> = t
		for k in t do end`, "\n") {
		more := 2
		if strings.Contains(line, " y = 1") {
			more = 4
		}
		takes(t, ahead+strings.TrimSpace(line), 2+more)
	}
	eachSteps(t, `
		local t = setmetatable({}, {__index = {}}) x = t.x => 2
		local t = setmetatable({}, {__index = rawget, __newindex = rawset, __len = rawlen}) x = t.x t.x = 1 x = #t => 4
		local t = setmetatable({}, {__index = function() end}) x = rawget(t, 1) x = rawlen(t) x = rawequal(t, {}) => 4
		local t = setmetatable({}, {__eq = function() end}) x = t == t x = t == 1 => 3
		local t = setmetatable({x = 1}, {__index = function() end, __newindex = function() end}) x = t.x t.x = 2 => 3
		do local x <close> = setmetatable({}, {__close = function() end}) end => 3
		do local x <close> = setmetatable({}, {__close = function() x = 1 end}) end => 4
		for i = 1, 2 do local x <close> = setmetatable({}, {__close = function() end}) end => 7
	`)
}

// A call that fails ahead of its step takes none.
func TestEvaluateStepsOfFailures(t *testing.T) {
	t.Parallel()
	eachSteps(t, `
		local function f() end pcall(function() f(1, table.unpack({}, 1, 1000)) end) => 4
		local function f() end pcall(function() return f(1, table.unpack({}, 1, 1000)) end) => 4
		local function f() end pcall(function() f(table.unpack({}, 1, 1000)) end) => 5
		pcall(function() x() end) => 3
		pcall(function() return x() end) => 3
		pcall(function() return #x end) => 3
		pcall(function() local x <close> = 1 end) => 3
		pcall(function() for i = 1, 'x' do end end) => 3
		pcall(function() for i in 1 do end end) => 3
	`)
	limits := plenty()
	limits.Frames = 1
	for source, steps := range map[string]int{
		"local function f() end f()": 3,
		"pcall(type)":                2,
		"local t = setmetatable({}, {__index = print}) x = t.x": 3,
		"local t <close> = setmetatable({}, {__close = print})": 2,
		"load('x = 1')()":                                          2,
		"for k in pairs do end":                                    2,
		"local function f() end return (f())":                      3,
		"local function f() local x <close> = nil end x = 1, f()":  3,
		"local function f() end local x <close> = nil return f()":  4,
		"local function f() local x <close> = nil end return f(1)": 5,
	} {
		got := ran(t, source, limits)
		wants := "1: stack overflow"
		if strings.HasSuffix(source, "f(1)") {
			wants = ""
		}
		if got.Ticks != steps || got.Error != wants {
			t.Errorf("%s: %s", source, outcomeText(got))
		}
	}
}

// Promise 23 at each number of steps that a run can have.
func TestEvaluateStepByStep(t *testing.T) {
	t.Parallel()
	source := `local function c(k) return setmetatable({}, {__close = function(o, e) write(k, e or "-") end}) end
		local co = coroutine.wrap(function(a) local x <close> = c("x") for i = 1, 3 do write(i) a = a + coroutine.yield(a) end return a end)
		write(co(1), co(2), co(3), co(4))
		local t = {3, 1, 2} table.sort(t, function(a, b) write("<") return a < b end) print(table.concat(t, ","))
		print(pcall(function() local y <close> = c("y") do local z <close> = c("z") error("e", 0) end end))
		for k, v in pairs({a = 1, b = 2}) do write(k, v, type(v) .. "s") end
		return load("local n = ... return n, 2 * n")(21)`
	whole := ran(t, source, plenty())
	if whole.Code != 0 || whole.Output != "123x-13610<<<1,2,3\nzeyefalse\te\na1numbersb2numbers" {
		t.Errorf("%s", outcomeText(whole))
	}
	before := impl.Outcome{}
	for steps := 1; steps < whole.Ticks; steps++ {
		limits := plenty()
		limits.Steps = steps
		got := impl.Evaluate(source, limits)
		want := impl.Outcome{Code: impl.OutBudget, Output: got.Output, Ticks: steps, Made: got.Made}
		if !sameOutcome(got, want) || !strings.HasPrefix(whole.Output, got.Output) || !strings.HasPrefix(got.Output, before.Output) || got.Made < before.Made {
			t.Errorf("with %d steps: %s", steps, outcomeText(got))
		}
		if model := modelEvaluate(source, limits); !sameOutcome(got, model) {
			t.Errorf("with %d steps: %s, the model: %s", steps, outcomeText(got), outcomeText(model))
		}
		before = got
	}
}
