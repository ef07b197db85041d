package tests

import (
	"strings"
	"testing"

	"loop.example/g00002/impl"
)

func framed(frames int) impl.Limits {
	limits := plenty()
	limits.Frames = frames
	return limits
}

// checkDepth looks that a text in which D stands for a depth ends well at just the depth told, and one deeper fails as told.
func checkDepth(t *testing.T, source string, frames, depth int, message string) {
	t.Helper()
	just := strings.ReplaceAll(source, "D", intLitText(depth))
	if got := ran(t, just, framed(frames)); got.Code != 0 || got.Output != "in out" {
		t.Errorf("%d frames: %s\n%s", frames, just, outcomeText(got))
	}
	deeper := strings.ReplaceAll(source, "D", intLitText(depth+1))
	if got := ran(t, deeper, framed(frames)); got.Code != impl.OutError || got.Error != message || strings.Contains(got.Output, "out") {
		t.Errorf("%d frames: %s\n%s, not %s", frames, deeper, outcomeText(got), message)
	}
}

// Promise 22: recursion goes to just the limit.
func TestEvaluateFramesOfRecursion(t *testing.T) {
	t.Parallel()
	for _, frames := range []int{2, 3, 10, 199, 200} {
		// The text itself takes one.
		checkDepth(t, "local function f(n) if n > 1 then f(n - 1) else write('in ') end end f(D) write('out')", frames, frames-1, "1: stack overflow")
		checkDepth(t, "local function f(n)\nif n > 1 then\nf(n - 1) else write('in ') end end\nf(D) write('out')", frames, frames-1, "3: stack overflow")
		checkDepth(t, "local t = {} function t:f(n) if n > 1 then self:f(n - 1) else write('in ') end end t:f(D) write('out')", frames, frames-1, "1: stack overflow")
		checkDepth(t, "local function f(n) if n > 1 then return 1 + f(n - 1) end write('in ') return 0 end f(D) write('out')", frames, frames-1, "1: stack overflow")
		checkDepth(t, "local function f(n) if n > 1 then local x <close> = nil return f(n - 1) end write('in ') end f(D) write('out')", frames, frames-1, "1: stack overflow")
		checkDepth(t, "local function f(n) if n > 1 then return (f(n - 1)) end write('in ') end f(D) write('out')", frames, frames-1, "1: stack overflow")
		checkDepth(t, "local m = {} m.__index = function(t, k) if k > 1 then return 0, t[k - 1] end write('in ') end local x = setmetatable({}, m)[D] write('out')", frames, frames-1, "1: stack overflow")
		checkDepth(t, "local m = {} m.__add = function(t, k) if k > 1 then return 0 + (t + (k - 1)) end write('in ') return 0 end local x = setmetatable({}, m) + D write('out')", frames, frames-1, "1: stack overflow")
		checkDepth(t, "local m = {} m.__newindex = function(t, k) if k > 1 then t[k - 1] = 1 else write('in ') end end setmetatable({}, m)[D] = 1 write('out')", frames, frames-1, "1: stack overflow")
		checkDepth(t, "local m = {} m.__call = function(t, k) if k > 1 then t(k - 1) else write('in ') end end setmetatable({}, m)(D) write('out')", frames, frames-1, "1: stack overflow")
		checkDepth(t, "local m = {} m.__lt = function(t, k) if k > 1 then return (t < k - 1) end write('in ') end local x = setmetatable({}, m) < D write('out')", frames, frames-1, "1: stack overflow")
		checkDepth(t, "local n = D local m = {} m.__close = function(t) n = n - 1 if n > 0 then local x <close> = t else write('in ') end end do local x <close> = setmetatable({}, m) end write('out')", frames, frames-1, "1: stack overflow")
		// A text that is loaded takes one as well.
		checkDepth(t, "function f(n) if n > 1 then load('f(...)')(n - 1) else write('in ') end end f(D) write('out')", frames, frames/2, "1: stack overflow")
	}
	for _, source := range []string{
		"local function f() end f()", "local function f() end local x = f()", "print()", "local x = setmetatable({}, {__index = function() end}).x", "pcall(type)", "load('')()",
		"local x <close> = setmetatable({}, {__close = function() end})", "for k in function() end do end", "local x = setmetatable({}, {__add = pcall}) + 1",
	} {
		if got := ran(t, source, framed(1)); got.Code != impl.OutError || got.Error != "1: stack overflow" {
			t.Errorf("%s: %s", source, outcomeText(got))
		}
		if got := ran(t, source, framed(2)); got.Code != 0 {
			t.Errorf("%s: %s", source, outcomeText(got))
		}
	}
	for _, source := range []string{
		"", "type(1)", "return type(1)", "local x = #{} + 1", "coroutine.resume(coroutine.create(function() end))", "return (function() return 1 end)()", "local x <close> = setmetatable({}, {__close = rawequal})",
		"local x = setmetatable({}, {__index = rawget, __add = rawequal}) x = x.y x = {} == x", "for k in next, {1} do end", "load('return 1')", "local x = error", "write('x')",
	} {
		if got := ran(t, source, framed(1)); got.Code != 0 {
			t.Errorf("%s: %s", source, outcomeText(got))
		}
	}
}

func TestEvaluateFramesOfProtectedCalls(t *testing.T) {
	t.Parallel()
	limits := framed(1)
	comesTo(t, "local ok = pcall(type, 1)", limits, impl.Outcome{Code: impl.OutError, Error: "1: stack overflow", Ticks: 2})
	comesTo(t, "return pcall(type, 1)", limits, impl.Outcome{Code: impl.OutError, Error: "1: stack overflow", Ticks: 2})
	limits = framed(2)
	comesTo(t, "return pcall(type, 1)", limits, impl.Outcome{Results: []string{"true", "number"}, Ticks: 2, Made: 6})
	comesTo(t, "return pcall(pcall, type, 1)", limits, impl.Outcome{Results: []string{"false", "stack overflow"}, Ticks: 2})
	comesTo(t, "return pcall(function() end)", limits, impl.Outcome{Results: []string{"false", "stack overflow"}, Ticks: 2})
	limits = framed(3)
	comesTo(t, "return pcall(pcall, type, 1)", limits, impl.Outcome{Results: []string{"true", "true", "number"}, Ticks: 2, Made: 6})
	comesTo(t, "return pcall(function() return 5 end)", limits, impl.Outcome{Results: []string{"true", "5"}, Ticks: 4})
	comesTo(t, "return pcall(function() return (type(1)) end)", limits, impl.Outcome{Results: []string{"true", "number"}, Ticks: 4, Made: 6})
	comesTo(t, "return pcall(function() return pcall(type, 1) end)", limits, impl.Outcome{Results: []string{"false", "1: stack overflow"}, Ticks: 4})
	comesTo(t, "return pcall(function() local x = (function() end)() end)", limits, impl.Outcome{Results: []string{"false", "1: stack overflow"}, Ticks: 4})
	comesTo(t, "return pcall(function() return (function() return 7 end)() end)", limits, impl.Outcome{Results: []string{"true", "7"}, Ticks: 6})
	comesTo(t, "return pcall(pcall, pcall, type, 1)", limits, impl.Outcome{Results: []string{"true", "false", "stack overflow"}, Ticks: 2})
	for _, frames := range []int{2, 5, 50, 200} {
		got := ran(t, "local t = setmetatable({}, {__call = pcall}) return select('#', t()), (select(-1, t())), (select(-2, t()))", framed(frames))
		if want := intLitText(frames) + " stack overflow false"; strings.Join(got.Results, " ") != want {
			t.Errorf("%d frames: %s, not %s", frames, outcomeText(got), want)
		}
		if frames == 2 {
			continue
		}
		// How deep a function gets by itself and by pcall in turn.
		got = ran(t, "local n = 0 local function f() n = n + 1 return 0, pcall(f) end f() return n", framed(frames))
		if want := intLitText(frames / 2); got.Results[0] != want {
			t.Errorf("%d frames: %s, not %s", frames, outcomeText(got), want)
		}
		// What has failed leaves all frames to those that come behind it.
		got = ran(t, "local function f() return 1 + f() end local n = 0 local function g() n = n + 1 return 1 + g() end pcall(f) pcall(f) pcall(g) return n", framed(frames))
		if want := intLitText(frames - 2); got.Results[0] != want {
			t.Errorf("%d frames: %s, not %s", frames, outcomeText(got), want)
		}
	}
}

// Each thread counts for itself.
func TestEvaluateFramesOfThreads(t *testing.T) {
	t.Parallel()
	for _, frames := range []int{1, 2, 10, 200} {
		source := "local n = 0 local function f() n = n + 1 return 1 + f() end local ok, e = coroutine.resume(coroutine.create(f)) return n, ok, e"
		got := ran(t, source, framed(frames))
		if want := intLitText(frames) + " false 1: stack overflow"; strings.Join(got.Results, " ") != want {
			t.Errorf("%d frames: %s, not %s", frames, outcomeText(got), want)
		}
		source = "local c = coroutine local function f(k) if k > 0 then local t = c.create(f) local ok, v = c.resume(t, k - 1) return v end return 'deep' end return f(3)"
		if got := ran(t, source, framed(frames)); strings.Join(got.Results, " ") != "deep" {
			t.Errorf("%d frames: %s", frames, outcomeText(got))
		}
	}
	comesTo(t, "return coroutine.resume(coroutine.create(function() return 1 end))", framed(1), impl.Outcome{Results: []string{"true", "1"}, Ticks: 4})
	comesTo(t, "return coroutine.resume(coroutine.create(function() return (print)(1) end))", framed(1), impl.Outcome{Code: 0, Results: []string{"false", "18: stack overflow"}, Ticks: 9})
	comesTo(t, "return coroutine.resume(coroutine.create(pcall), type, 1)", framed(1), impl.Outcome{Results: []string{"true", "true", "number"}, Ticks: 2, Made: 6})
	comesTo(t, "return coroutine.resume(coroutine.create(pcall), pcall, type, 1)", framed(1), impl.Outcome{Results: []string{"true", "false", "stack overflow"}, Ticks: 2})
	comesTo(t, "return coroutine.resume(coroutine.create(coroutine.resume), coroutine.create(function() return 1 end))", framed(1), impl.Outcome{Results: []string{"true", "true", "1"}, Ticks: 4})
	// Frames wait with their thread.
	gives(t, "local c = coroutine.wrap(function() local function f(n) if n == 0 then coroutine.yield(1) else f(n - 1) end end f(198) return 2 end) local function g(n) if n == 0 then return c(), c() end return (g(n - 1)) end return g(100)", "1")
}

// Calls in the last place take no frame.
func TestEvaluateFramesOfLastCalls(t *testing.T) {
	t.Parallel()
	for _, frames := range []int{1, 2, 200} {
		limits := framed(frames)
		limits.Steps = 5000
		for source, want := range map[string]string{
			"local function f(n) if n == 0 then return 'end' end return f(n - 1) end return f(1000)":                                                       "end",
			"local t = {} function t:f(n) if n == 0 then return 'end' end return self:f(n - 1) end return t:f(1000)":                                       "end",
			"local t = setmetatable({}, {}) getmetatable(t).__call = function(self, n) if n == 0 then return 'end' end return self(n - 1) end return t(9)": "end",
			"local f, g function f(n) if n == 0 then return 'end' end return g(n - 1) end function g(n) return f(n) end return f(500)":                     "end",
			"local function f(n, ...) if n == 0 then return ... end return f(n - 1, n, ...) end return f(3)":                                               "1 2 3",
			"local function f(n) do local x <close> = nil end while true do if n == 0 then return 'end' end return f(n - 1) end end return f(300)":         "end",
			"local function f(n) for i = 1, 2 do if n == 0 then return 'end' end return f(n - 1) end end return f(300)":                                    "end",
			"local function f(n) local g = function() return n end if n == 0 then return g() end return f(n - 1) end return f(300)":                        "0",
			"return load('return ...')(1, 2)":                        "1 2",
			"return (function(...) return select(2, ...) end)(1, 2)": "2",
		} {
			if got := ran(t, source, limits); strings.Join(got.Results, " ") != want {
				t.Errorf("%d frames: %s\n%s, not %s", frames, source, outcomeText(got), want)
			}
		}
		comesTo(t, "local function f() return f() end return f()", limits, impl.Outcome{Code: impl.OutBudget, Ticks: 5000})
		comesTo(t, "local t = setmetatable({}, {}) getmetatable(t).__call = t return t()", limits, impl.Outcome{Code: impl.OutError, Error: "1: '__call' chain too long", Ticks: 4})
		comesTo(t, "local function f() local x <const> = 1 return f() end return f()", limits, impl.Outcome{Code: impl.OutBudget, Ticks: 5000})
	}
	// With a variable to be closed in sight a call in the last place does take one, whatever the variable has.
	for _, r := range []struct {
		source string
		depth  int
	}{
		{"local n = 0 local function f() n = n + 1 local x <close> = nil return f() end pcall(f) return n", 18},
		{"local n = 0 local function f() n = n + 1 do local x <close> = nil return f() end end pcall(f) return n", 18},
		{"local n = 0 local function f() n = n + 1 local x <close> = nil do local x return f() end end pcall(f) return n", 18},
		{"local n = 0 local function f() n = n + 1 local x <close> = false for i = 1, 1 do return f() end end pcall(f) return n", 18},
		{"local n = 0 local function f() n = n + 1 return (f()) end pcall(f) return n", 18},
		{"local n = 0 local function f() n = n + 1 return f(), 1 end pcall(f) return n", 18},
		{"local n = 0 local function f() n = n + 1 return 1, f() end pcall(f) return n", 18},
		{"local n = 0 local function f() n = n + 1 return f() or 1 end pcall(f) return n", 18},
		{"local n = 0 local function f() n = n + 1 return pcall(f) end pcall(f) return n", 9},
		{"local x <close> = nil local n = 0 local function f(k) n = n + 1 if k > 0 then return f(k - 1) end end f(100) return n", 101},
	} {
		if got := ran(t, r.source, framed(20)); got.Code != 0 || got.Results[0] != intLitText(r.depth) {
			t.Errorf("%s\n%s, not %d", r.source, outcomeText(got), r.depth)
		}
	}
	// A function that has ended so is no level any more; one that calls a primitive in the last place is.
	gives(t, "local function g() error('e', 2) end local function f()\nreturn g() end local ok, e = pcall(f) return e", "e")
	gives(t, "local function f()\nreturn error('e') end local ok, e = pcall(f) return e", "2: e")
	gives(t, "local function g() error('e', 2) end local function f()\nreturn g() end local function h()\n\nf() end local ok, e = pcall(h) return e", "4: e")
	gives(t, "local function g() error('e', 2) end local function f()\nlocal x <close> = nil return g() end local ok, e = pcall(f) return e", "2: e")
	fails(t, "local function f() error('e', 2) end\nreturn f()", "e")
	fails(t, "local function f() error('e', 2) end\nreturn (f())", "2: e")
}
