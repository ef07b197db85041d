package tests

import (
	"runtime"
	"strings"
	"sync"
	"testing"
	"time"

	"loop.example/g00002/impl"
)

// waitForGoroutines looks that there are no more of them than before; one that has ended may take a moment to be gone.
func waitForGoroutines(t *testing.T, before int) {
	t.Helper()
	for range 2000 {
		if runtime.NumGoroutine() <= before {
			return
		}
		time.Sleep(time.Millisecond)
	}
	t.Errorf("%d goroutines, %d before", runtime.NumGoroutine(), before)
}

// Nothing goes on behind a call, however it ends. (This test isn't parallel to others, whose goroutines would count.)
func TestEvaluateLeavesNoGoroutine(t *testing.T) {
	before := runtime.NumGoroutine()
	for _, r := range []struct {
		source string
		code   int
	}{
		{"for i = 1, 300 do coroutine.resume(coroutine.create(coroutine.yield)) end", 0},
		{"for i = 1, 300 do coroutine.resume(coroutine.create(coroutine.yield)) end error('e')", impl.OutError},
		{"while true do coroutine.resume(coroutine.create(coroutine.yield)) end", impl.OutBudget},
		{"while true do coroutine.resume(coroutine.create(function() pcall(function() local x <close> = setmetatable({}, {__close = print}) coroutine.yield() end) end)) end", impl.OutBudget},
		{"local function f() coroutine.resume(coroutine.create(coroutine.yield)) coroutine.wrap(f)() end f()", impl.OutError},
		{"local function f() coroutine.resume(coroutine.create(coroutine.yield)) while true do coroutine.resume(coroutine.create(f)) end end f()", impl.OutBudget},
		{"coroutine.wrap(function() coroutine.resume(coroutine.create(coroutine.yield)) write(('x'):rep(60000)) end)()", impl.OutOutput},
		{"coroutine.wrap(function() local s = ('x'):rep(60000) coroutine.wrap(function() while true do s = s .. '' coroutine.resume(coroutine.create(coroutine.yield)) end end)() end)()", impl.OutMade},
		{"local t = {} for i = 1, 50 do t[i] = coroutine.wrap(function() for j = 1, i do coroutine.yield(j) end end) end for i = 1, 50 do for j = 1, i // 2 do t[i]() end end", 0},
		{"local c = coroutine.create(function() local x <close> = setmetatable({}, {__close = function() while true do end end}) coroutine.yield() end) coroutine.resume(c) coroutine.close(c)", impl.OutBudget},
	} {
		limits := plenty()
		limits.Steps, limits.Output = 20000, 50000
		for range 3 {
			if got := impl.Evaluate(r.source, limits); got.Code != r.code {
				t.Errorf("%s: %s", r.source, outcomeText(got))
			}
		}
	}
	waitForGoroutines(t, before)
}

// Calls at the same time don't touch each other.
func TestEvaluateAtTheSameTime(t *testing.T) {
	t.Parallel()
	texts := append(modestTexts(60), alone...)
	limits := plenty()
	limits.Steps = 2000
	var want []impl.Outcome
	for _, source := range texts {
		want = append(want, impl.Evaluate(source, limits))
	}
	var group sync.WaitGroup
	for w := range 8 {
		group.Add(1)
		go func() {
			defer group.Done()
			for i := range texts {
				i = (i + w*11) % len(texts)
				if got := impl.Evaluate(texts[i], limits); !sameOutcome(got, want[i]) {
					t.Errorf("%s\n%s, alone %s", texts[i], outcomeText(got), outcomeText(want[i]))
				}
			}
		}()
	}
	group.Wait()
}

// Chapter 1: answers own their memory.
func TestEvaluateAnswersOwnTheirMemory(t *testing.T) {
	t.Parallel()
	for _, source := range []string{
		"write('a long enough text') return 'a long enough text', 'a long enough text', ('a long enough text'):sub(1)",
		"write('a long enough text') error('a long enough text', 0)",
		"local s = 'a long enough text' write(s) return s, s, {}, print, write",
		"write([[a long enough text]]) return [[a long enough text]], next({a_long_enough_name = 1})",
		"write([[a long enough text]]) error([[a long enough text]], 0)",
		"error((next({a_long_enough_name = 1})), 0)",
	} {
		source = strings.Clone(source)
		first, second := impl.Evaluate(source, plenty()), impl.Evaluate(source, plenty())
		all := append([]string{first.Output, first.Error}, first.Results...)
		for i, text := range all {
			apart(t, source, text, source)
			for _, other := range append(append([]string{second.Output, second.Error}, second.Results...), all[:i]...) {
				apart(t, source, text, other)
			}
		}
		want := outcomeText(second)
		for i := range first.Results {
			first.Results[i] = "changed"
		}
		room := first.Results[:cap(first.Results)]
		for i := range room {
			room[i] = "changed"
		}
		if got := outcomeText(impl.Evaluate(source, plenty())); got != want || outcomeText(second) != want {
			t.Errorf("%s: %s, then %s", source, want, got)
		}
	}
}

// deepTexts are texts that are as deep as they can be, or nearly so.
func deepTexts() []string {
	return []string{
		"return " + times("(", 190) + "1" + times(")", 190),
		"return " + times("- ", 190) + "1",
		"return " + times("not ", 190) + "1",
		"return " + times("{", 190) + times("}", 190),
		"return " + times("1 .. ", 190) + "1",
		"return " + times("2 ^ ", 190) + "1",
		"return 1" + times(" + 1", 190),
		times("do ", 95) + "write('in')" + times(" end", 95),
		times("while true do ", 90) + "write('in') do return 'r' end" + times(" end", 90),
		times("repeat ", 90) + "write('in')" + times(" until true", 90),
		times("for i = 1, 1 do ", 90) + "write('in')" + times(" end", 90),
		times("if true then ", 90) + "write('in')" + times(" end", 90),
		"return " + times("(function() return ", 45) + "1" + times(" end)()", 45),
		"return " + times("pcall(function() return ", 45) + "1" + times(" end)", 45),
		"local x = " + times("{x = ", 95) + "1" + times("}", 95) + " return x" + times(".x", 95),
		"local function f(n) if n == 0 then return 0 end return " + times("1 + (", 90) + "f(n - 1)" + times(")", 90) + " end return f(180)",
		"local function f(n) if n == 0 then error('deep', 0) end return " + times("1 + (", 90) + "f(n - 1)" + times(")", 90) + " end return pcall(f, 180)",
		"local function f(n) local x <close> = setmetatable({}, {__close = function(o, e) write(e and 'e' or '-') end}) if n == 0 then error('deep', 0) end return 1 + f(n - 1) end return pcall(f, 150)",
		"local t = {} t.__index = function(t, k) if k == 0 then return 'end' end return (t[k - 1]) end return setmetatable({}, t)[190]",
		"local s = 'x' return s" + times(":rep(1)", 190),
		"local f f = function() return f end return f" + times("()", 190),
	}
}

// Chapter 1: an answer comes at every text.
func TestEvaluateLongAndDeepTexts(t *testing.T) {
	t.Parallel()
	texts := deepTexts()
	for _, part := range []string{
		"x = 1 ", "local x = {} ", "f() ", "write('x') ", "do end ", "::a:: ", ";", " ", "-- comment\n", "x = x and x or 1 ", "goto a do end ", "return ", "'", "\"\\", "[[", "--[[", "((", "{", "}", "x.", "x:", "x,",
		"f{", "f'' ", "1+", "not ", "- ", "function() ", "local function f() end ", "if x then ", "while x do ", "for i = 1, 2 do ", "repeat ", "until x ", "end ", "break ", "\x00", "\xff", "é", "x = 'a' .. 'b' ",
		"local t = {} t.x = 1 ", "x = (x or 0) + 1 ",
	} {
		texts = append(texts, times(part, impl.MaxSource/len(part)), times(part, impl.MaxSource/len(part)+1), times(part, 50), times(part, 170))
	}
	texts = append(texts, "return "+times("1, ", 10000)+"1", "x = {"+times("{},", 9000)+"}", "write("+times("'x', ", 240)+"'x')", times("x=x or{}x.y=x ", 1200)+"return x.y.y.y == x")
	for _, source := range texts {
		got := impl.Evaluate(source, plenty())
		if _, fault := impl.Compile(source); fault != got.Fault || (fault.Code != 0) != (got.Code == impl.OutFault) {
			t.Errorf("%s: %s, fault %v", short(source), outcomeText(got), fault)
		}
		if got.Code != impl.OutFault {
			if want := modelEvaluate(source, plenty()); !sameOutcome(got, want) {
				t.Errorf("%s: %s, the model: %s", short(source), outcomeText(got), outcomeText(want))
			}
		}
	}
	for _, source := range randomTexts(2000, 12) {
		got := impl.Evaluate(source, impl.Limits{Steps: 500, Frames: 20, Output: 100})
		_, fault := impl.Compile(source)
		if fault != got.Fault || (fault.Code != 0) != (got.Code == impl.OutFault) || fault.Code != 0 && !sameOutcome(got, impl.Outcome{Code: impl.OutFault, Fault: fault}) {
			t.Errorf("%q: %s, fault %v", source, outcomeText(got), fault)
		}
	}
}

func TestEvaluateWithAnyFrames(t *testing.T) {
	t.Parallel()
	for _, source := range modestTexts(40) {
		for frames := 1; frames <= 12; frames++ {
			limits := plenty()
			limits.Frames, limits.Steps = frames, 3000
			ran(t, source, limits)
		}
	}
}
