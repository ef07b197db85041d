package tests

import (
	"strings"
	"testing"
)

// Promise 15. n counts the entries that a table has, w makes one of a mode.
const weaks = "local function n(t) local n = 0 for k, v in next, t do n = n + 1 end return n end local function w(mode) return setmetatable({}, {__mode = mode}) end "

// Entries are set in a function, whose registers are gone behind it.
func weakly(mode, set, then string) string {
	return weaks + "local w = w(" + mode + ") local held = {} local function set() " + set + " end set() collectgarbage() " + then
}

func TestExecWeakTables(t *testing.T) {
	t.Parallel()
	for _, r := range []struct{ set, then, strong, keys, values, both string }{
		// An entry whose value nothing else holds, whose key, both.
		{"w[1] = {}", "write(n(w))", "1", "1", "0", "0"},
		{"w[{}] = 1", "write(n(w))", "1", "0", "1", "0"},
		{"w[{}] = {}", "write(n(w))", "1", "0", "0", "0"},
		// What something else holds stays.
		{"held[1] = {} w[1] = held[1]", "write(n(w))", "1", "1", "1", "1"},
		{"held[1] = {} w[held[1]] = 1", "write(n(w))", "1", "1", "1", "1"},
		{"held[1] = {} w[held[1]] = {}", "write(n(w))", "1", "1", "0", "0"},
		{"held[1] = {} w[{}] = held[1]", "write(n(w))", "1", "0", "1", "0"},
		{"held[1] = {} w[held[1]] = held[1]", "write(n(w))", "1", "1", "1", "1"},
		// An object that is its own key and value.
		{"local o = {} w[o] = o", "write(n(w))", "1", "0", "1", "0"},
		{"w[w] = w", "write(n(w))", "1", "1", "1", "1"},
		// Keys that are held by their own values, and by each other's.
		{"local k = {} w[k] = {k}", "write(n(w))", "1", "0", "0", "0"},
		{"local a, b = {}, {} w[a] = b w[b] = a", "write(n(w))", "2", "0", "2", "0"},
		{"local a, b = {}, {} w[a] = b w[b] = a held[1] = a", "write(n(w))", "2", "2", "2", "0"},
		{"held[1] = {} local a, b = {}, {} w[held[1]] = a w[a] = b w[b] = 1", "write(n(w))", "3", "3", "3", "0"},
		// Texts, numbers, booleans and primitives are nobody's.
		{"w.x = 'y' w[1] = 2 w[2.5] = 3.5 w[true] = false w[print] = type w[type] = 'z'", "write(n(w))", "6", "6", "6", "6"},
		{"w[function() end] = 1 w[2] = function() end", "write(n(w))", "2", "1", "1", "0"},
		{"w[coroutine.create(print)] = 1 w[2] = coroutine.create(print)", "write(n(w))", "2", "1", "1", "0"},
		// What is reached only by the other tables' weak sides.
		{"local x = setmetatable({}, {__mode = 'v'}) local o = {} x[1] = o w[1] = o held[1] = x", "write(n(w), n(held[1]))", "11", "11", "00", "00"},
		{"held[1] = w w[1] = held", "write(n(w))", "1", "1", "1", "1"},
		// Finalizers: values go ahead of them, keys behind them.
		{"local o = setmetatable({}, {__gc = function() write('f') end}) w[1] = o", "write(n(w)) write('-')", "1-", "1-", "f0-", "f0-"},
		{"local o = setmetatable({}, {__gc = function(o) write(rawtostring(w[o])) end}) w[o] = 1", "write(n(w)) write('-')", "1-", "11-", "1-", "11-"},
		{"local o = setmetatable({}, {__gc = function(o) write(rawtostring(w[o])) end}) w[o] = 1", "collectgarbage() collectgarbage() write(n(w))", "1", "10", "1", "10"},
	} {
		for _, m := range [][2]string{{"nil", r.strong}, {"'k'", r.keys}, {"'v'", r.values}, {"'kv'", r.both}, {"'vk'", r.both}, {"'xvyk'", r.both}, {"''", r.strong}, {"'K'", r.strong}, {"5", r.strong}, {"true", r.strong}, {"table.unpack", r.strong}, {"'kk'", r.keys}} {
			comesOut(t, weakly(m[0], r.set, r.then), m[1]+" =")
		}
	}
}

// The mode is that of setmetatable's moment.
func TestExecModes(t *testing.T) {
	t.Parallel()
	for _, r := range [][2]string{
		{"local m = {} local t = setmetatable({}, m) m.__mode = 'v' local function s() t[1] = {} end s() collectgarbage() write(n(t)) setmetatable(t, m) collectgarbage() write(n(t))", "10 ="},
		{"local m = {__mode = 'v'} local t = setmetatable({}, m) m.__mode = nil local function s() t[1] = {} end s() collectgarbage() write(n(t)) s() setmetatable(t, m) collectgarbage() write(n(t))", "01 ="},
		{"local t = w('v') setmetatable(t, nil) local function s() t[1] = {} end s() collectgarbage() write(n(t))", "1 ="},
		{"local t = w('v') setmetatable(t, {}) local function s() t[1] = {} end s() collectgarbage() write(n(t))", "1 ="},
		{"local t = w('v') setmetatable(t, {__mode = 'k'}) local function s() t[1] = {} t[{}] = 1 end s() collectgarbage() write(n(t), type(t[1]))", "1table ="},
		{"local m = setmetatable({}, {__index = {__mode = 'v'}}) local t = setmetatable({}, m) local function s() t[1] = {} end s() collectgarbage() write(n(t))", "1 ="},
		// In the middle of marking.
		{"local t = {} local function s() for i = 1, 50 do t[i] = {} end end s() collectgarbage('step', 100) setmetatable(t, {__mode = 'v'}) collectgarbage() write(n(t))", "0 ="},
		{"local t = w('v') local function s() for i = 1, 50 do t[i] = {} end end s() collectgarbage('step', 100) setmetatable(t, nil) collectgarbage('step', 1000000) collectgarbage() write(n(t))", "50 ="},
		{"local t = w('k') local function s() for i = 1, 50 do t[{}] = i end end s() collectgarbage('step', 100) setmetatable(t, nil) collectgarbage() write(n(t))", "50 ="},
	} {
		comesOut(t, weaks+r[0], r[1])
	}
}

// Going through a weak table while entries of it go.
func TestExecWeakTablesLookedAt(t *testing.T) {
	t.Parallel()
	const ahead = weaks + "local t = w('v') local keep = {} local function s() for i = 1, 6 do t[i] = {} if i % 2 == 0 then keep[i] = t[i] end end end s() "
	for _, r := range [][2]string{
		{"for k, v in next, t do collectgarbage() write(k) end", "1246 ="},
		{"for k, v in pairs(t) do collectgarbage() write(k) end", "1246 ="},
		{"collectgarbage() for k, v in pairs(t) do write(k) end", "246 ="},
		{"local k = next(t) collectgarbage() write(k, (next(t, k)))", "12 ="},
		{"collectgarbage() write(rawtostring((next(t, 1))), rawtostring(pcall(next, t, 1)))", "2true ="},
		{"for i, v in ipairs(t) do collectgarbage() write(i) end", "12 ="},
		{"collectgarbage() write(#t) t[1] = 1 t[3] = 1 write(#t)", "04 ="},
	} {
		comesOut(t, ahead+r[0], r[1])
	}
	// A key that is gone has no entry any more, and neither has one without a value that nothing holds.
	const keyed = weaks + "local t = w('k') local k1 = {} local function s() t[{}] = 1 t[k1] = 2 t[{}] = 3 end s() "
	for _, r := range [][2]string{
		{"for k, v in next, t do write(v) collectgarbage() end", "12 ="},
		{"collectgarbage() for k, v in next, t do write(v) end", "2 ="},
		{"local k = next(t) collectgarbage() write(t[k], type((next(t, k))))", "1table ="},
		{"local x = {} t[x] = 5 t[x] = nil local y = x collectgarbage() write(rawtostring((next(t, y))))", "nil ="},
		{"local x = {} local u = {} u[x] = 5 u[1] = 1 u[x] = nil collectgarbage() write((next(u, x)))", "1 ="},
	} {
		comesOut(t, keyed+r[0], r[1])
	}
	// Entries that have gone count for the size, until others come.
	source := weaks + "local t = w('v') local function s() for i = 1, 20 do t[i] = {} end end s() local a = collectgarbage('count') collectgarbage() local b = collectgarbage('count') t.x = 1 write(a - b, ' ', b - collectgarbage('count'))"
	comesOut(t, source, "840 760 =")
}

// At each pace entries that something holds stay, and behind a whole collection the others are gone.
func TestExecWeakTablesAtPaces(t *testing.T) {
	t.Parallel()
	// (A key that is strong would hold its object.)
	for mode, key := range map[string]string{"k": "o", "v": "o[1]", "kv": "o"} {
		source := strings.ReplaceAll(weaks+`local t, keep = w("MODE"), {} local function s(i) local o = {i} if i % 3 == 0 then keep[#keep + 1] = o end t[KEY] = o end
			for i = 1, 300 do s(i) end collectgarbage() local right = n(t) == 100 for i, o in ipairs(keep) do right = right and t[KEY] == o end return n(t), #keep, right`, "MODE", mode)
		source = strings.ReplaceAll(source, "KEY", key)
		for _, pace := range paces() {
			if got := checkMachine(t, source, compiled(t, source), paced(pace)); toldShort(got) != "= 100 100 true" {
				t.Errorf("%s, pace %d: %s", mode, pace, outcomeText(got))
			}
		}
	}
}
