package tests

import (
	"strings"
	"testing"

	"loop.example/g00002/impl"
)

// What is moved from one place to another in the middle of a cycle isn't missed, wherever the collector is: each text is run
// with N units of its work done ahead of the move. Behind it the cycle is ended, and another one done.
func TestExecMovesInTheMiddle(t *testing.T) {
	t.Parallel()
	const move = " collectgarbage('step', N) "
	const done = " local p, q, r, s, u, v, w repeat until collectgarbage('step', 1000) write(seen.a and '+' or '-', seen.b and '+' or '-') collectgarbage() write(seen.a and '+' or '-', seen.b and '+' or '-')"
	const object, taken = "local o = {see('b')} seen.a = o ", "x = o o = nil"
	isOld := func(text string) bool {
		return !strings.Contains(text, taken) || strings.Contains(text, "w[1] = o") || strings.Contains(text, "setmetatable(o")
	}
	for _, text := range []string{
		// Into a table, by each way of setting; into a metatable's place; by a key.
		"local t = {} " + object + "local function m() local x = o o = nil t.x = x end" + move + "m()",
		"local t = {} " + object + "local function m() local x = o o = nil t[1] = x end" + move + "m()",
		"local t = {} " + object + "local function m() local x = o o = nil rawset(t, 1, x) end" + move + "m()",
		"local t = {x = 1} " + object + "local function m() local x = o o = nil t.x = x end" + move + "m()",
		"local t = {} " + object + "local function m() local x = o o = nil t[x] = true end" + move + "m()",
		"local t = {} " + object + "local function m() local x = o o = nil setmetatable(t, x) end" + move + "m()",
		"local t = setmetatable({}, {}) " + object + "local function m() local x = o o = nil setmetatable(t, x) end" + move + "m()",
		object + "local function m() local x = o o = nil g = x end" + move + "m()",
		"g = 1 " + object + "local function m() local x = o o = nil g = x end" + move + "m()",
		object + "local function m() local x = o o = nil string.x = x end" + move + "m()",
		"local t = setmetatable({}, {__mode = 'k'}) local k = {} " + object + "local function m() local x = o o = nil t[k] = x end" + move + "m()",
		"local t = setmetatable({}, {__mode = 'v'}) " + object + "local function m() local x = o o = nil t[x] = 1 end" + move + "m()",
		// Into a cell that is closed; into one that is open; by a cell that is closed.
		"local set, get do local x set = function(v) x = v end get = function() return x end end " + object + "local function m() local x = o o = nil set(x) end" + move + "m()",
		object + "local set, get do local x set = function(v) x = v end get = function() return x end end local function m() local x = o o = nil set(x) end" + move + "m()",
		object + "local get local function m()" + move + "local x = o o = nil get = function() return x end end m()",
		object + "local get local function m() local x get = function() return x end" + move + "x = o o = nil end m()",
		object + "local get local function m() local x = o get = function() return x end o = nil" + move + "end m()",
		object + "local get local function m() do local x = o get = function() return x end o = nil" + move + "end end m()",
		// Into a register of another thread, or of this one.
		object + "local co = coroutine.wrap(function(x) while true do x = coroutine.yield() end end) co()" + move + "local function m() local x = o o = nil co(x) end m()",
		object + "local co = coroutine.wrap(function() local x = o o = nil coroutine.yield() end)" + move + "co()",
		object + "local co = coroutine.create(function(...) coroutine.yield() end) local function m() local x = o o = nil coroutine.resume(co, x) end" + move + "m()",
		object + "local co local function m() local x = o o = nil co = coroutine.create(function() return x end) end" + move + "m()",
		object + "local y local function m() local x = o o = nil y = x end" + move + "m()",
		object + "local function m() local x = o o = nil" + move + "return x end local y = m()",
		// From a weak table.
		"local w = setmetatable({}, {__mode = 'v'}) local t = {} " + object + "w[1] = o local function m() local x = w[1] o = nil t[1] = x end" + move + "m()",
		// Of an object whose finalizer is called.
		"local t = {} " + object + "setmetatable(o, {__gc = function() end}) local function m() local x = o o = nil t[1] = x end" + move + "m()",
	} {
		inParallel(300, func(n int) {
			// The object is old and in a register, which the collector looks at first; or it is new; or it is in the globals,
			// which the collector looks at last.
			source := text
			if n%3 == 1 && !isOld(text) {
				source = strings.ReplaceAll(strings.ReplaceAll(text, object, "local function new() local o = {see('b')} seen.a = o return o end "), taken, "x = new()")
			}
			if n%3 == 2 && !isOld(text) {
				source = strings.ReplaceAll(strings.ReplaceAll(text, object, "G = {see('b')} seen.a = G "), taken, "x = G G = nil")
			}
			source = strings.ReplaceAll(sees+source+done, "N", intLitText(n+1))
			got := impl.Exec(compiled(t, source), paced(0))
			if toldShort(got) != "++++ =" {
				t.Errorf("%s\n%s", source, outcomeText(got))
			}
			if n%10 == 0 {
				checkMachine(t, source, compiled(t, source), paced(n%3))
			}
		})
	}
}

// SetField, SetItem and SetList, which compiled code has for new tables alone, set in old ones too.
func TestExecMovesByHand(t *testing.T) {
	t.Parallel()
	const source = "local function f() end " + sees + "local t = {} local o = {see('b')} seen.a = o " +
		"local function m() local x = o o = nil f(t, x) end collectgarbage('step', N) m() local p, q, r, s, u, v, w repeat until collectgarbage('step', 1000) write(seen.a and '+' or '-', seen.b and '+' or '-')"
	for _, code := range []string{"SetField 0 0 1", "SetItem 0 1 1", "Dots 2 0; SetList 0 1", "SetIndex 0 1 1", "SetGlobal 1 0"} {
		inParallel(150, func(n int) {
			chunk := spliced(t, strings.ReplaceAll(source, "N", intLitText(2*n+1)), "regs 3 line 7 params 2 dots consts \"x\"\n7: Tick; "+code+"; Return 0 1")
			if got := impl.Exec(chunk, paced(0)); toldShort(got) != "++ =" {
				t.Errorf("%s, %d units: %s", code, 2*n+1, outcomeText(got))
			}
		})
	}
}
