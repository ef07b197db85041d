package tests

import (
	"fmt"
	"strings"
	"testing"

	"loop.example/g00002/impl"
)

// atLimit holds a text in which N stands for a number against what it tells at a limit, and one beyond it, at each pace.
func atLimit(t *testing.T, source string, limit int, within, beyond string) {
	t.Helper()
	for _, pace := range []int{0, 1, 100} {
		runGives(t, strings.ReplaceAll(source, "N", fmt.Sprint(limit)), paced(pace), within)
		runGives(t, strings.ReplaceAll(source, "N", fmt.Sprint(limit+1)), paced(pace), beyond)
	}
}

func TestRunChains(t *testing.T) {
	t.Parallel()
	const index = "local t = {x = 'found', f = function() return 'called' end} for i = 1, N do t = setmetatable({}, {__index = t}) end "
	const tooLong = "'__index' chain too long"
	atLimit(t, index+"return t.x", impl.MaxChain, "= found", "! 1: "+tooLong)
	atLimit(t, index+"return t['x']", impl.MaxChain, "= found", "! 1: "+tooLong)
	atLimit(t, index+"return t.y", impl.MaxChain, "= nil", "! 1: "+tooLong)
	atLimit(t, index+"return t:f()", impl.MaxChain, "= called", "! 1: "+tooLong)
	atLimit(t, index+"return pcall(function()\nreturn t.x end)", impl.MaxChain, "= true found", "= false 2: "+tooLong)
	// The chain may end at a string, a function, or something that can't be indexed.
	const ends = "local t = END for i = 1, N do t = setmetatable({}, {__index = t}) end return t.len"
	atLimit(t, strings.Replace(ends, "END", "'text'", 1), impl.MaxChain, "= builtin: string.len", "! 1: "+tooLong)
	atLimit(t, strings.Replace(ends, "END", "5", 1), impl.MaxChain, "! 1: attempt to index a number value", "! 1: "+tooLong)
	// A function is called by the last table, so that it is one link more.
	atLimit(t, strings.Replace(ends, "END", "function(t, k) return k end", 1), impl.MaxChain+1, "= len", "! 1: "+tooLong)
	const newIndex = "local last = {} local t = last for i = 1, N do t = setmetatable({}, {__newindex = t}) end t.x = 5 return last.x"
	atLimit(t, newIndex, impl.MaxChain, "= 5", "! 1: '__newindex' chain too long")
	atLimit(t, "local last local t = function(t, k, v) last = v end for i = 1, N do t = setmetatable({}, {__newindex = t}) end t.x = 5 return last", impl.MaxChain+1, "= 5", "! 1: '__newindex' chain too long")
	atLimit(t, "local t = 5 for i = 1, N do t = setmetatable({}, {__newindex = t}) end t.x = 5", impl.MaxChain, "! 1: attempt to index a number value", "! 1: '__newindex' chain too long")
	const call = "local f = FUNCTION for i = 1, N do f = setmetatable({}, {__call = f}) end "
	counts := strings.Replace(call, "FUNCTION", "function(...) return select('#', ...) end", 1)
	atLimit(t, counts+"return f()", impl.MaxChain, "= 100", "! 1: '__call' chain too long")
	atLimit(t, counts+"return (f(1, 2))", impl.MaxChain, "= 102", "! 1: '__call' chain too long")
	atLimit(t, counts+"return pcall(f)", impl.MaxChain, "= true 100", "= false '__call' chain too long")
	atLimit(t, strings.Replace(call, "FUNCTION", "select", 1)+"return pcall(f, '#')", impl.MaxChain, "= false bad argument #1 to 'select' (number expected, got table)", "= false '__call' chain too long")
	atLimit(t, strings.Replace(call, "FUNCTION", "5", 1)+"f()", impl.MaxChain, "! 1: attempt to call a number value", "! 1: '__call' chain too long")
	// Those that go round in a circle.
	for source, message := range map[string]string{
		"local t = setmetatable({}, {}) getmetatable(t).__index = t return t.x": tooLong, "local t = setmetatable({}, {}) getmetatable(t).__newindex = t t.x = 1": "'__newindex' chain too long",
		"local t = setmetatable({}, {}) getmetatable(t).__call = t t()": "'__call' chain too long",
	} {
		runGives(t, source, paced(1), "! 1: "+message)
	}
}

func TestRunNestedThreads(t *testing.T) {
	t.Parallel()
	const tooMany = "too many coroutines inside each other"
	atLimit(t, "local function go(n) if n == 0 then return 'end' end local ok, v = coroutine.resume(coroutine.create(go), n - 1) return v end return go(N)", impl.MaxNested, "= end", "= "+tooMany)
	atLimit(t, "local function go(n) if n == 0 then return 'end' end return coroutine.wrap(go)(n - 1) end return pcall(go, N)", impl.MaxNested, "= true end", "= false "+tooMany)
	// Closing counts as resuming.
	const closing = closer + "local c = coroutine.create(function() local x <close> = c('x') coroutine.yield() end) coroutine.resume(c) " +
		"local function go(n) if n == 0 then return coroutine.close(c) end return select(2, coroutine.resume(coroutine.create(go), n - 1)) end return go(N)"
	atLimit(t, closing, impl.MaxNested-1, "x(nil)  = true", "= false "+tooMany)
	runGives(t, "local t = {} for i = 1, 300 do t[i] = coroutine.create(function() coroutine.yield(i) return -i end) coroutine.resume(t[i]) end local n = 0 for i = 1, 300 do n = n + select(2, coroutine.resume(t[i])) end return n", paced(1), "= -45150")
}

func TestRunManyValues(t *testing.T) {
	t.Parallel()
	const tooMany = "! 1: too many values"
	const spread = "local function f(...) return (select(-1, ...)) end local t = {} for i = 1, N do t[i] = i end "
	atLimit(t, spread+"return (f(table.unpack(t)))", impl.MaxValues-1, "= 999", tooMany)
	const wide = "local function f(...) local t = {...} return #t end local t = {} for i = 1, 2000 do t[i] = i end "
	atLimit(t, wide+"return (f(table.unpack(t, 1, N)))", impl.MaxValues, "= 1000", tooMany)
	atLimit(t, wide+"return f(0, table.unpack(t, 1, N))", impl.MaxValues-1, "= 1000", tooMany)
	atLimit(t, wide+"return #{table.unpack(t, 1, N)}", impl.MaxValues, "= 1000", tooMany)
	atLimit(t, wide+"return pcall(f, table.unpack(t, 1, N))", impl.MaxValues-1, "= true 999", tooMany)
	atLimit(t, wide+"return ({f = f}):f(table.unpack(t, 1, N))", impl.MaxValues-1, "= 1000", tooMany)
	atLimit(t, wide+"return setmetatable({}, {__call = f})(table.unpack(t, 1, N))", impl.MaxValues-1, "= 1000", tooMany)
	atLimit(t, wide+"return #{coroutine.resume(coroutine.create(function(...) return ... end), table.unpack(t, 1, N))}", impl.MaxValues-1, "= 1000", tooMany)
	atLimit(t, "return #{string.byte(('x'):rep(2000), 1, N)}", impl.MaxValues, "= 1000", tooMany)
}

func TestRunLongStrings(t *testing.T) {
	t.Parallel()
	const tooLong = "! 1: string too long"
	atLimit(t, "return #('x'):rep(N)", impl.MaxString, "= 65536", tooLong)
	atLimit(t, "return #('x'):rep(2, (','):rep(N - 2))", impl.MaxString, "= 65536", tooLong)
	atLimit(t, "return #(('x'):rep(N - 10) .. '1234567890')", impl.MaxString, "= 65536", tooLong)
	atLimit(t, "return #(('x'):rep(N - 3) .. 1.5)", impl.MaxString, "= 65536", tooLong)
	atLimit(t, "return #string.format('%s%s', ('x'):rep(N - 1), 'y')", impl.MaxString, "= 65536", tooLong)
	atLimit(t, "return #string.format('%s%99d', ('x'):rep(N - 99), 1)", impl.MaxString, "= 65536", tooLong)
	atLimit(t, "return #string.rawgsub('ab', 'b', ('x'):rep(N - 1))", impl.MaxString, "= 65536", tooLong)
	atLimit(t, "return #table.concat({('x'):rep(N - 2), ('y'):rep(1)}, ',')", impl.MaxString, "= 65536", "! "+preludePlace(t, "out = out .. v")+"string too long")
	atLimit(t, "local s = ('x'):rep(N - 1) .. 'y' return s:sub(-1), #s", impl.MaxString, "= y 65536", tooLong)
}

// Made bytes: 50000 of a string, and those of each of the joined ones.
func TestRunMadeBytes(t *testing.T) {
	t.Parallel()
	const source = "local s = ('x'):rep(50000) for i = 1, 38 do local r = s .. '' end s = s:sub(1, N) return 'end'"
	for _, pace := range paces() {
		got := checkRun(t, strings.Replace(source, "N", "50000", 1), paced(pace))
		if toldShort(got) != "= end" || got.Made != impl.MaxMade {
			t.Errorf("%s", outcomeText(got))
		}
		got = checkRun(t, strings.Replace(source, "s = s:sub(1, N)", "s = s .. 'y'", 1), paced(pace))
		if got.Code != impl.OutMade || got.Made != impl.MaxMade+1 {
			t.Errorf("%s", outcomeText(got))
		}
		got = checkRun(t, strings.Replace(source, "s = s:sub(1, N)", "pcall(load, s) pcall(load, ' ')", 1), paced(pace))
		if got.Code != impl.OutMade || got.Made != impl.MaxMade+1 {
			t.Errorf("%s", outcomeText(got))
		}
	}
}

func TestRunOutput(t *testing.T) {
	t.Parallel()
	for _, most := range []int{0, 1, 2, 100, 65535, impl.MaxOutput} {
		limits := paced(most % 3)
		limits.Output = most
		for _, r := range []struct {
			source string
			size   int
			output string
			code   int
		}{
			{"write(('x'):rep(N))", most, times("x", most), 0}, {"write(('x'):rep(N))", most + 1, "", impl.OutOutput}, {"write(('x'):rep(N - 1)) write('', '') write('y')", max(most, 1), times("x", max(most, 1)-1) + "y", 0},
			{"write(('x'):rep(N)) write('') write('y') write('z')", most, times("x", most), impl.OutOutput}, {"write(('x'):rep(N), 'y')", most, "", impl.OutOutput},
			{"pcall(write, ('x'):rep(N)) pcall(write, 'y') write('z')", most, times("x", most), impl.OutOutput},
		} {
			if r.size > impl.MaxString || most == 0 && strings.Contains(r.source, "N - 1") {
				continue
			}
			got := checkRun(t, strings.Replace(r.source, "N", fmt.Sprint(r.size), 1), limits)
			if got.Code != r.code || got.Output != r.output {
				t.Errorf("%s with %d: %s", r.source, r.size, outcomeText(got))
			}
		}
	}
}

func TestRunResults(t *testing.T) {
	t.Parallel()
	for _, n := range []int{0, 1, 99, 100, 101, 999} {
		for _, source := range []string{"local t = {} for i = 1, N do t[i] = i end return table.unpack(t)", "local function f(n) if n == N then return end return n + 1, f(n + 1) end return f(0)"} {
			if n > 150 && strings.Contains(source, "f(0)") {
				continue
			}
			got := checkRun(t, strings.ReplaceAll(source, "N", fmt.Sprint(n)), paced(n%3))
			if got.Code != 0 || len(got.Results) != min(n, impl.MaxResults) {
				t.Errorf("%d: %s", n, outcomeText(got))
			}
			for i, result := range got.Results {
				if result != fmt.Sprint(i+1) {
					t.Errorf("%d: result %d is %s", n, i, result)
				}
			}
		}
	}
}

// Promise 11: a file is run just if Verify tells nothing of its chunk, and a run takes at most its steps.
func TestRunFileJustIfSafe(t *testing.T) {
	t.Parallel()
	chunks := anyChunks(1500)
	row := words(9000)
	for i, source := range sourcesOfAllKinds(40) {
		if chunk, fault := impl.Compile(source); fault.Code == 0 {
			g := grower{chance: row[i*5 : i*5+500]}
			spoilt := copyChunk(chunk)
			g.turnProto(&spoilt.Protos[g.pick(len(spoilt.Protos))])
			chunks = append(chunks, chunk, spoilt)
		}
	}
	safe := 0
	for i, chunk := range chunks {
		file, code := impl.WriteChunk(chunk)
		if code != 0 {
			continue
		}
		limits := heapLimits(i)
		got := impl.RunFile(file, limits)
		isSafe := impl.Verify(chunk).Code == 0
		if (got.Code == impl.OutChunk) == isSafe || got.Ticks > limits.Steps || !isSafe && got.Ticks != 0 {
			t.Errorf("%s, %+v of\n%.2000s", outcomeText(got), impl.Verify(chunk), codeText(chunk))
		}
		if isSafe {
			safe++
		}
	}
	if safe < 100 || safe > len(chunks)-300 {
		t.Errorf("%d of %d are safe", safe, len(chunks))
	}
}

// Promise 14: finalizers are called each once, one at a Tick, the one that began to wait last first; an error in one is dropped.
func TestRunFinalizers(t *testing.T) {
	t.Parallel()
	for _, r := range [][2]string{
		{"f('a') f('b') f('c') collectgarbage() write('-') write('-') write('-') write('-')", "c-b-a-- ="},
		{"f('a') collectgarbage() collectgarbage() write('-') collectgarbage() write('-')", "a-- ="},
		{"f('a', error) f('b', function() error('e') end) collectgarbage() write('-') write('-') write('-') return 'end'", "b-a-- = end"},
		{"f('a', function(o) x = o end) collectgarbage() write('-') write(type(x)) x = nil collectgarbage() write('-')", "a-table- ="},
		{"f('a', function(o) setmetatable(o, getmetatable(o)) end) collectgarbage() write('-') collectgarbage() write('-')", "a-a- ="},
		{"f('a', function() write(rawtostring((pcall(coroutine.yield)))) end) collectgarbage() write('-')", "afalse- ="},
		{"coroutine.wrap(function() f('a', function() write(rawtostring(coroutine.isyieldable())) end) collectgarbage() write('-') write(rawtostring(coroutine.isyieldable())) end)()", "afalse-true ="},
		{"for i = 1, 3 do f(i) end collectgarbage('step', 1000000) write('-') write('-') write('-') write('-')", "3-2-1-- ="},
		{"f('a') write('no collection')", "no collection ="},
	} {
		runGives(t, finals+r[0], paced(0), r[1])
	}
	// However many there are, and whatever the pace, each is called once at most, and all that are left by a collection with
	// enough Ticks behind it.
	for _, pace := range paces() {
		source := finals + "for i = 1, 100 do f('.') end collectgarbage() for i = 1, 120 do end"
		runGives(t, source, paced(pace), times(".", 100)+" =")
	}
}

// Promise 15: entries of weak tables whose keys or values nothing else holds are gone behind a whole collection.
func TestRunWeakTables(t *testing.T) {
	t.Parallel()
	for mode, keys := range map[string][2]string{"k": {"o", "i"}, "v": {"i", "o"}, "kv": {"o", "o"}} {
		source := "local t, keep = setmetatable({}, {__mode = '" + mode + "'}), {} local function s(i) local o = {i} if i % 4 == 0 then keep[#keep + 1] = o end t[" + keys[0] + "] = " + keys[1] +
			" end for i = 1, 200 do s(i) end collectgarbage() local n = 0 for k, v in next, t do n = n + 1 end return n, #keep"
		for _, pace := range paces() {
			runGives(t, source, paced(pace), "= 50 50")
		}
		strong := strings.Replace(source, "__mode", "__more", 1)
		runGives(t, strong, paced(1), "= 200 50")
	}
	// A value that holds its own key by a weak key goes; one that something else holds stays.
	runGives(t, "local t = setmetatable({}, {__mode = 'k'}) local function s() local k = {} t[k] = {k} end s() s() local k = {} t[k] = {k} collectgarbage() local n = 0 for k in next, t do n = n + 1 end return n", paced(1), "= 1")
}
