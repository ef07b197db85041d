package tests

import (
	"fmt"
	"strings"
	"testing"
)

// finals has f, which leaves an object behind whose finalizer tells a name, and then may do something; o is that object.
const finals = `local function f(k, act) setmetatable({}, {__gc = function(o) write(k) if act then act(o) end end}) end
`

// Promise 14: each once, one at a Tick, the one that began to wait last first.
func TestExecFinalizers(t *testing.T) {
	t.Parallel()
	for _, r := range [][2]string{
		{"f('a') collectgarbage() write('-') write('-')", "a-- ="},
		{"f('a') f('b') f('c') collectgarbage() write('-') write('-') write('-') write('-')", "c-b-a-- ="},
		{"f('a') collectgarbage() f('b') collectgarbage() write('-') write('-')", "ab-- ="},
		{"f('a') f('b') collectgarbage() f('c') collectgarbage() write('-') write('-') write('-')", "bac--- ="},
		{"f('a') collectgarbage() collectgarbage() collectgarbage() write('-')", "a- ="},
		// Set twice, or while it has one.
		{"do local o = setmetatable({}, {__gc = function() write('x') end}) setmetatable(o, {__gc = function() write('y') end}) end local o, p, q collectgarbage() write('-') write('-')", "y-- ="},
		{"do local m = {__gc = function() write('x') end} local o = setmetatable({}, m) setmetatable(o, m) setmetatable(o, m) end local o, p, q, r collectgarbage() write('-') write('-')", "x-- ="},
		{"do local o = setmetatable({}, {__gc = function() write('x') end}) setmetatable(o, nil) end local o, p, q collectgarbage() write('-') write('-')", "-- ="},
		{"do local o = setmetatable({}, {__gc = function() write('x') end}) setmetatable(o, nil) setmetatable(o, {__gc = function() write('y') end}) end local o, p, q collectgarbage() write('-') write('-')", "y-- ="},
		{"do local o = setmetatable({}, {__gc = function() write('x') end}) setmetatable(o, {}) end local o, p, q collectgarbage() write('-') write('-')", "-- ="},
		// __gc comes to the metatable ahead of setmetatable, or behind it.
		{"do local m = {} local o = setmetatable({}, m) m.__gc = function() write('x') end end local o, p, q collectgarbage() write('-') write('-')", "-- ="},
		{"do local m = {} local o = setmetatable({}, m) m.__gc = function() write('x') end setmetatable(o, m) end local o, p, q, r collectgarbage() write('-') write('-')", "x-- ="},
		{"do local m = {__gc = 1} local o = setmetatable({}, m) m.__gc = function() write('x') end end local o, p, q collectgarbage() write('-') write('-')", "x-- ="},
		{"do local m = {__gc = false} local o = setmetatable({}, m) m.__gc = function() write('x') end end local o, p, q collectgarbage() write('-') write('-')", "x-- ="},
		{"do local m = {__gc = print} local o = setmetatable({}, m) m.__gc = nil end local o, p, q collectgarbage() write('-') write('-')", "-- ="},
		{"setmetatable({}, {__gc = 5}) setmetatable({}, {__gc = {}}) setmetatable({}, {__gc = 'x'}) f('a') local o, p, q collectgarbage() write('-') write('-') write('-') write('-')", "a---- ="},
		{"setmetatable({}, setmetatable({}, {__index = {__gc = function() write('x') end}})) local o, p, q, r collectgarbage() write('-')", "- ="},
		{"setmetatable({}, {__gc = setmetatable({}, {__call = function(_, o) write(type(o)) end})}) local o, p, q, r collectgarbage() write('-')", "table- ="},
		// Which was given a finalizer last is called first, whichever object is older.
		{"do local a, b = {}, {} setmetatable(b, {__gc = function() write('b') end}) setmetatable(a, {__gc = function() write('a') end}) end local a, b, c, d, e collectgarbage() write('-') write('-')", "a-b- ="},
		// Errors are dropped, values too.
		{"f('a', function() error('e') end) collectgarbage() write('-') write('-')", "a-- ="},
		{"f('a', function() return 1, 2, 3 end) collectgarbage() write('-') write('-')", "a-- ="},
		{"f('a', function() local x = nil + 1 end) f('b', error) collectgarbage() write('-') write('-') write('-')", "b-a-- ="},
		{"setmetatable({}, {__gc = error}) f('a') collectgarbage() write('-') write('-') write('-')", "a--- ="},
		{closer + "f('a', function() local x <close> = c('x') error('e', 0) end) collectgarbage() write('-') write('-')", "ax(e) -- ="},
		// Other finalizers wait while one runs.
		{"f('a') f('b', function() write('(') local x = 1 x = 2 write(')') end) collectgarbage() write('-') write('-') write('-')", "b()-a-- ="},
		{"f('a') f('b', function() write('(') f('c') collectgarbage() local x = 1 x = 2 write(')') end) collectgarbage() write('-') write('-') write('-') write('-')", "b()-c-a-- ="},
		{"f('a', function() pcall(function() write('in') error() end) write('out') end) collectgarbage() write('-')", "ainout- ="},
		// Made reachable again; it has no finalizer then, but can get one.
		{"f('a', function(o) g = o end) collectgarbage() write('-') write(type(g)) g = nil collectgarbage() write('-') write('-')", "a-table-- ="},
		{"f('a', function(o) setmetatable(o, getmetatable(o)) end) collectgarbage() write('-') collectgarbage() write('-') collectgarbage() write('-')", "a-a-a- ="},
		{"f('a', function(o) o.x = o g = {o} end) collectgarbage() write('-') collectgarbage() write(rawtostring(g[1].x == g[1]))", "a-true ="},
		// What it holds is there when it is called.
		{"do local o = setmetatable({x = {y = 'z'}}, {__gc = function(o) write(o.x.y) end}) end local o, p, q, r collectgarbage() write('-')", "z- ="},
		{"do local a = setmetatable({}, {__gc = function(o) write('a', type(o.b)) end}) local b = setmetatable({}, {__gc = function(o) write('b', type(o.a)) end}) a.b, b.a = b, a end local o, p, q, r, s, u, v, w collectgarbage() write('-') write('-') write('-')", "btable-atable-- ="},
		// Those that wait when the run ends, or that nothing asked for.
		{"f('a') f('b') collectgarbage()", "="},
		{"f('a') f('b') collectgarbage() write('-')", "b- ="},
		{"f('a') f('b')", "="},
		{"f('a') local x = 1 error('e')", "! 2: e"},
		{"x = setmetatable({}, {__gc = function() write('no') end}) collectgarbage() write('-')", "- ="},
		{"f('a', function() error('e') end) collectgarbage() error('end')", "a ! 2: end"},
		// A finalizer is called at a Tick of whatever thread runs.
		{"f('a', function() write(rawtostring(select(2, coroutine.running()))) end) coroutine.wrap(function() collectgarbage() local x = 1 end)() write('-')", "afalse- ="},
		{"f('a', function(o) write(coroutine.status(coroutine.create(print))) end) collectgarbage() write('-')", "asuspended- ="},
		{"f('a', function() write(coroutine.wrap(function() return 'in' end)()) end) collectgarbage() write('-')", "ain- ="},
	} {
		comesOut(t, finals+r[0], r[1])
	}
}

func TestExecFinalizersAndYield(t *testing.T) {
	t.Parallel()
	const wrong = "attempt to yield from a finalizer"
	for _, r := range [][2]string{
		{"f('a', function() write(select(2, pcall(coroutine.yield))) end) coroutine.wrap(function() collectgarbage() write('-') end)()", "a" + wrong + "- ="},
		{"f('a', function() write(select(2, pcall(coroutine.yield))) end) collectgarbage() write('-')", "aattempt to yield outside of a coroutine- ="},
		{"f('a', function() coroutine.yield() write('no') end) coroutine.wrap(function() collectgarbage() write('-') write('-') end)()", "a-- ="},
		{"f('a', coroutine.yield) coroutine.wrap(function() collectgarbage() write('-') write('-') end)()", "a-- ="},
		{"setmetatable({}, {__gc = coroutine.yield}) coroutine.wrap(function() collectgarbage() write('-') write('-') end)()", "-- ="},
		{"f('a', function() write(rawtostring(coroutine.isyieldable())) end) coroutine.wrap(function() write(rawtostring(coroutine.isyieldable())) collectgarbage() write('-') write(rawtostring(coroutine.isyieldable())) end)()", "trueafalse-true ="},
		{"f('a', function() write(rawtostring(coroutine.isyieldable())) end) collectgarbage() write('-')", "afalse- ="},
		// In a coroutine that is resumed inside of one too.
		{"f('a', function() local c = coroutine.create(function() write(rawtostring(coroutine.isyieldable())) coroutine.yield() end) write(select(2, coroutine.resume(c))) end) collectgarbage() write('-')",
			"afalse4: " + wrong + "- ="},
		// One that is closed tells that first.
		{"f('a', function() write(select(2, pcall(coroutine.yield))) end) local c = coroutine.create(function() local x <close> = setmetatable({}, {__close = function() collectgarbage() write('-') end}) coroutine.yield() end) coroutine.resume(c) coroutine.close(c)",
			"aattempt to yield from a coroutine that is closed- ="},
		{"f('a', function() error() end) coroutine.wrap(function() collectgarbage() local x = 1 coroutine.yield() end)() write(rawtostring(coroutine.isyieldable()))", "afalse ="},
		{"local c = coroutine.wrap(function() f('a', function() error() end) local x collectgarbage() x = 1 write(coroutine.yield('y')) end) write(c()) c('r')", "ayr ="},
	} {
		comesOut(t, strings.Replace(finals, "\n", " \n\n\n", 1)+r[0], r[1])
	}
}

// A finalizer's frame counts for nothing, the closure in it does.
func TestExecFinalizersAndFrames(t *testing.T) {
	t.Parallel()
	source := finals + "f('a', function() local function g() write('g') end g() write('on') end) collectgarbage() write('-') write('.')"
	for frames, want := range map[int]string{1: "! 2: stack overflow", 2: "a-. =", 3: "a-. =", 4: "agon-. =", 5: "agon-. ="} {
		limits := paced(0)
		limits.Frames = frames
		if got := toldShort(checkMachine(t, source, compiled(t, source), limits)); got != want {
			t.Errorf("%d frames: %s, not %s", frames, got, want)
		}
	}
}

// Many of them at each pace: each is called once.
func TestExecFinalizersAtPaces(t *testing.T) {
	t.Parallel()
	source := "local n, seen = 0, {} for i = 1, 400 do setmetatable({i}, {__gc = function(o) n = n + 1 seen[o[1]] = (seen[o[1]] or 0) + 1 end}) end " +
		"local a, b, c, d, e = 1 collectgarbage() for i = 1, 500 do a = i end local once = true for i = 1, 400 do once = once and seen[i] == 1 end return n, once"
	for _, pace := range paces() {
		if got := checkMachine(t, source, compiled(t, source), paced(pace)); toldShort(got) != "= 400 true" {
			t.Errorf("pace %d: %s", pace, outcomeText(got))
		}
	}
	// One at a Tick.
	for n := range 6 {
		source := finals + "for i = 1, 5 do f(i) end local x collectgarbage() " + strings.Repeat("x = 1 ", n)
		want := strings.TrimSpace("54321"[:n] + " =")
		if got := checkMachine(t, source, compiled(t, source), paced(0)); toldShort(got) != want {
			t.Errorf("%d ticks: %s", n, outcomeText(got))
		}
	}
	// What a finalizer takes of the budget counts.
	source = finals + "f('a') local x collectgarbage() x = 1"
	got := checkMachine(t, source, compiled(t, source), paced(0))
	if want := 11; got.Ticks != want {
		t.Errorf("%s, not %d steps", outcomeText(got), want)
	}
	for steps := 1; steps < got.Ticks; steps++ {
		limits := paced(0)
		limits.Steps = steps
		fewer := checkMachine(t, source, compiled(t, source), limits)
		if fewer.Code != 3 || !strings.HasPrefix(got.Output, fewer.Output) {
			t.Errorf("%d steps: %s", steps, fmt.Sprint(outcomeText(fewer)))
		}
	}
}
