package tests

import (
	"strings"
	"testing"

	"loop.example/g00002/impl"
)

const threads = "local create, resume, yield, status, running, close, wrap, isyieldable = coroutine.create, coroutine.resume, coroutine.yield, coroutine.status, coroutine.running, coroutine.close, coroutine.wrap, coroutine.isyieldable "

func TestEvaluateThreadValues(t *testing.T) {
	t.Parallel()
	for _, r := range [][2]string{
		{"local co = create(function(...) print('in', ...) print('back', yield(1, 2)) return 3, 4 end) print(resume(co, 'a', 'b')) print(resume(co, 'c')) print(resume(co))",
			"in\ta\tb\ntrue\t1\t2\nback\tc\ntrue\t3\t4\nfalse\tcannot resume a dead coroutine\n"},
		{"local co = create(function() return end) print(resume(co)) print(resume(co))", "true\nfalse\tcannot resume a dead coroutine\n"},
		{"local co = create(function() yield() yield(nil) yield(nil, nil) end) print(select('#', resume(co)), select('#', resume(co)), select('#', resume(co)), select('#', resume(co)))", "1\t2\t3\t1\n"},
		{"local co = create(function() print(select('#', yield())) print(select('#', yield())) print(select('#', yield())) end) resume(co) resume(co) resume(co, nil) resume(co, nil, nil)", "0\n1\n2\n"},
		{"local co = create(type) print(resume(co, {})) print(status(co))", "true\ttable\ndead\n"},
		{"local co = create(yield) print(resume(co, 1, 2)) print(status(co)) print(resume(co, 3, 4)) print(status(co))", "true\t1\t2\nsuspended\ntrue\t3\t4\ndead\n"},
		{"local co = create(error) print(resume(co, 'e')) print(status(co))", "false\te\ndead\n"},
		{"local co = create(pcall) print(resume(co, yield, 1)) print(resume(co, 2))", "true\t1\ntrue\ttrue\t2\n"},
		{"local co = create(running) local ok, me, main = resume(co) print(ok, me == co, main)", "true\ttrue\tfalse\n"},
		{"local co = create(isyieldable) print(resume(co))", "true\ttrue\n"},
		{"local co = create(resume) print(resume(co, create(function(a) return a end), 7))", "true\ttrue\t7\n"},
		{"local co = create(print) print(resume(co, 1)) print(resume(co, 1))", "1\ntrue\nfalse\tcannot resume a dead coroutine\n"},
		{"local f = wrap(function(a) a = yield(a + 1) return a * 2 end) print(f(1), f(10))", "2\t20\n"},
		{"local f = wrap(function() error({}) end) print(pcall(f)) print(pcall(f))", "false\ttable: 6\nfalse\tcannot resume a dead coroutine\n"},
		{"local f = wrap(function(...) return ... end) print(f(1, nil, 3))", "1\tnil\t3\n"},
		{"local co = create(function() local x = {} yield(x) yield(x) end) local _, a = resume(co) local _, b = resume(co) print(a == b)", "true\n"},
		{"local co = create(function() return yield(yield(yield(1))) end) print(resume(co)) print(resume(co, 2)) print(resume(co, 3)) print(resume(co, 4))", "true\t1\ntrue\t2\ntrue\t3\ntrue\t4\n"},
		{"local co = wrap(function() local t = {yield('a'), yield('b'), yield('c')} print(#t, t[1], t[2], t[3], t[4]) end) co() co(1, 'x') co(2, 'y') co(3, 4)", "4\t1\t2\t3\t4\n"},
		{"local co = wrap(function() print(yield('a') + yield('b') * 10) end) write(co(), co(1)) co(2)", "ab21\n"},
	} {
		puts(t, threads+r[0], r[1])
	}
}

func TestEvaluateThreadStates(t *testing.T) {
	t.Parallel()
	for _, r := range [][2]string{
		{"local co = create(function() end) print(status(co)) resume(co) print(status(co))", "suspended\ndead\n"},
		{"local co co = create(function() print(status(co)) yield() print(status(co)) end) resume(co) print(status(co)) resume(co) print(status(co))", "running\nsuspended\nrunning\ndead\n"},
		{"local a, b a = create(function() resume(b) end) b = create(function() print(status(a), status(b), status((running()))) end) resume(a) print(status(a), status(b))", "normal\trunning\trunning\ndead\tdead\n"},
		{"local main = running() print(status(main), select(2, running())) resume(create(function() print(status(main), select(2, running())) end))", "running\ttrue\nnormal\tfalse\n"},
		{"print(isyieldable()) resume(create(function() print(isyieldable()) end))", "false\ntrue\n"},
		{"resume(create(type), 1) print(status((running()))) resume(create(yield)) print(status((running()))) resume(create(error)) print(status((running())))", "running\nrunning\nrunning\n"},
		{"local a a = create(function() resume(create(type), 1) print(status(a)) resume(create(yield)) print(status(a)) local c = create(yield) resume(c) close(c) print(status(a)) end) resume(a) print(status(a))",
			"running\nrunning\nrunning\ndead\n"},
		{"print(resume((running())))", "false\tcannot resume a coroutine that is not suspended\n"},
		{"local co co = create(function() print(resume(co)) end) resume(co)", "false\tcannot resume a coroutine that is not suspended\n"},
		{"local main = running() resume(create(function() print(resume(main)) end))", "false\tcannot resume a coroutine that is not suspended\n"},
		{"local a a = create(function() resume(create(function() print(resume(a)) end)) end) resume(a)", "false\tcannot resume a coroutine that is not suspended\n"},
		{"local co = create(function() error('e') end) print(resume(co)) print(status(co)) print(resume(co)) print(close(co))", "false\t1: e\ndead\nfalse\tcannot resume a dead coroutine\ntrue\n"},
		{"local co = create(print) print(close(co)) print(status(co)) print(resume(co)) print(close(co))", "true\ndead\nfalse\tcannot resume a dead coroutine\ntrue\n"},
		{"local co = create(function() yield() print('no') end) resume(co) print(close(co)) print(status(co)) print(resume(co)) print(close(co))", "true\ndead\nfalse\tcannot resume a dead coroutine\ntrue\n"},
		{"print(pcall(close, (running())))", "false\tcannot close a coroutine that is not suspended\n"},
		{"local co co = create(function() print(pcall(close, co)) end) resume(co)", "false\tcannot close a coroutine that is not suspended\n"},
		{"local a a = create(function() resume(create(function() print(pcall(close, a)) end)) end) resume(a)", "false\tcannot close a coroutine that is not suspended\n"},
		{"local main = running() resume(create(function() print(pcall(close, main)) end))", "false\tcannot close a coroutine that is not suspended\n"},
		{"print(pcall(yield, 1))", "false\tattempt to yield outside of a coroutine\n"},
		{"local co = create(function() pcall(yield, 1) print('on') end) resume(co) print(status(co)) resume(co)", "suspended\non\n"},
		{"local co = create(function() pcall(function() yield() error('no') end) print('no') end) resume(co) print(close(co), status(co))", "true\tdead\n"},
		{"local co = wrap(function() return pcall(function() yield(1) error('e', 0) end) end) print(co()) print(co())", "1\nfalse\te\n"},
		{"local a = create(function() local b = create(function() yield(1) end) resume(b) yield(b) end) local _, b = resume(a) print(status(b), close(b), status(b), status(a))", "suspended\ttrue\tdead\tsuspended\n"},
		{"local co = create(function() yield() end) resume(co) local other = create(function() print(close(co), status(co)) end) resume(other)", "true\tdead\n"},
		{"print(rawtostring(create(print)), rawtostring((running())), rawtostring(create(print)))", "thread: 2\tthread: 1\tthread: 3\n"},
		{"print(type((running())), type(create(print)), running() == running(), create(print) == create(print))", "thread\tthread\ttrue\tfalse\n"},
	} {
		puts(t, threads+r[0], r[1])
	}
}

// A thread may wait anywhere.
func TestEvaluateThreadsWaitAnywhere(t *testing.T) {
	t.Parallel()
	const drive = threads + "local function drive(f) local co = create(f) local n = 0 while true do local v = table.pack(resume(co, n)) for i = 1, v.n do write(rawtostring(v[i]), ' ') end " +
		"if status(co) == 'dead' then write('\\n') return end n = n + 1 end end "
	for _, r := range [][2]string{
		{"drive(function() return pcall(function() return yield('p') end) end)", "true p true true 1 \n"},
		{"drive(function() return pcall(function() yield('p') error('e', 0) end) end)", "true p true false e \n"},
		{"drive(function() return pcall(pcall, yield, 'p') end)", "true p true true true 1 \n"},
		{"drive(function() return xpcall(function() error(yield('p'), 0) end, function(e) return e, yield('h') end) end)", "true p true h true false 1 2 \n"},
		{"drive(function() return setmetatable({}, {__index = function(t, k) return yield(k) end}).x end)", "true x true 1 \n"},
		{"drive(function() local t = setmetatable({}, {__newindex = function(t, k, v) rawset(t, k, yield(v)) end}) t.x = 5 return t.x end)", "true 5 true 1 \n"},
		{"drive(function() return setmetatable({}, {__add = function(a, b) return yield(b) end}) + 5 end)", "true 5 true 1 \n"},
		{"drive(function() return -setmetatable({}, {__unm = function(a, b) return yield('u') end}) end)", "true u true 1 \n"},
		{"drive(function() return 'a' .. setmetatable({}, {__concat = function(a, b) return yield(a) end}) end)", "true a true 1 \n"},
		{"drive(function() return setmetatable({}, {__lt = function(a, b) return yield('lt') end}) < 5 end)", "true lt true true \n"},
		{"drive(function() return setmetatable({}, {__le = function(a, b) yield('le') end}) <= 5 end)", "true le true false \n"},
		{"drive(function() return setmetatable({}, {__eq = function(a, b) return yield('eq') end}) == {} end)", "true eq true true \n"},
		{"drive(function() return #setmetatable({}, {__len = function() return yield('len') end}) end)", "true len true 1 \n"},
		{"drive(function() return setmetatable({}, {__call = function(self, a) return yield(a), yield(a + 1) end})(5) end)", "true 5 true 6 true 1 2 \n"},
		{"drive(function() return setmetatable({}, {__index = yield}).x end)", "true table: 6 x true 1 \n"},
		{"drive(function() for i in function() local n = yield('next') if n < 3 then return n end end do write('turn ', i, ' ') end end)", "true next turn 1 true next turn 2 true next true \n"},
		{"drive(function() for i in yield, 's' do write('turn ', i, ' ') if i == 2 then break end end end)", "true s nil turn 1 true s 1 turn 2 true \n"},
		{"drive(function() local t = {3, 1, 2} table.sort(t, function(a, b) yield('<') return a < b end) return table.concat(t, ',') end)", "true < true < true < true 1,2,3 \n"},
		{"drive(function() return (string.gsub('abc', '.', function(s) return s .. yield(s) end)) end)", "true a true b true c true a1b2c3 \n"},
		{"drive(function() return tostring(setmetatable({}, {__tostring = function() return 's' .. yield('ts') end})) end)", "true ts true s1 \n"},
		{"drive(function() for k, v in pairs(setmetatable({}, {__pairs = function(t) yield('pairs') return next, {7} end})) do write(k, v, ' ') end end)", "true pairs 17 true \n"},
		{"drive(function() return load('return coroutine.yield(...)')('l') end)", "true l true 1 \n"},
		{"drive(function() local t = {yield('a'), x = yield('b'), [yield('c') + 2] = yield('d'), yield('e')} return t[1], t.x, t[5], t[2] end)",
			"true a true b true c true d true e true 1 2 4 5 \n"},
		{"drive(function() local a, t = 0, {} t[yield('k')], a = yield('v'), yield('w') return t[1], a end)", "true k true v true w true 2 3 \n"},
		{"drive(function() while yield('c') < 3 do write('in ') end repeat write('r ') until yield('u') > 3 end)", "true c in true c in true c r true u true \n"},
		{"drive(function() for i = yield('s'), yield('l') + 1, yield('p') - 2 do write(i, ' ') end end)", "true s true l true p 1 2 3 true \n"},
		{"drive(function() if yield('if') == 2 then elseif yield('elseif') == 2 then write('second ') end end)", "true if true elseif second true \n"},
		{"drive(function() return (yield('paren')) end)", "true paren true 1 \n"},
		{"drive(function() return yield('and') and yield('or') or 9 end)", "true and true or true 2 \n"},
		{"drive(function() local inner = wrap(function() yield(yield('x')) end) return yield(inner()), inner('y') end)", "true x true 1 y \n"},
		{"drive(function() error(yield('e'), 0) end)", "true e false 1 \n"},
		{"drive(function() local ok, e = resume(create(function() return yield('in') end)) return ok, e, yield('out') end)", "true out true true in 1 \n"},
	} {
		puts(t, drive+r[0], r[1])
	}
}

// 100 threads may be resumed inside each other, and one more can't be.
func TestEvaluateNestedThreads(t *testing.T) {
	t.Parallel()
	const nest = threads + "local deepest = 0 local function go(n) deepest = n return resume(create(go), n + 1) end "
	gives(t, nest+"go(0) return deepest", "100")
	gives(t, threads+"local function go(n) if n == 0 then return 'end' end local ok, v = resume(create(go), n - 1) return v end return go(100), go(101), go(99)",
		"end too many coroutines inside each other end")
	gives(t, threads+"local function go(n) if n == 0 then return 'end' end return wrap(go)(n - 1) end return go(100), pcall(go, 101)", "end false too many coroutines inside each other")
	// What waits or has ended isn't among them.
	gives(t, threads+"local t = {} for i = 1, 150 do t[i] = create(function() yield(i) return -i end) resume(t[i]) end local n = 0 for i = 1, 150 do n = n + select(2, resume(t[i])) end return n", "-11325")
	gives(t, threads+"local function go(n) if n == 0 then return select(2, resume(create(type), 1)) end local ok, v = resume(create(go), n - 1) return v end return go(99), go(100)",
		"number too many coroutines inside each other")
	// Closing counts as resuming.
	const closing = threads + "local c = create(function() local x <close> = setmetatable({}, {__close = function() write('closed ') end}) yield() end) resume(c) " +
		"local function go(n) if n == 0 then return close(c) end local v = table.pack(resume(create(go), n - 1)) return table.unpack(v, 2, v.n) end "
	puts(t, closing+"print(go(99))", "closed true\n")
	puts(t, closing+"print(go(100)) print(status(c))", "false\ttoo many coroutines inside each other\nsuspended\n")
	puts(t, threads+"local fresh, dead = create(print), create(type) resume(dead, 1) local function go(n) if n == 0 then return close(fresh), close(dead), resume(dead) end return select(2, resume(create(go), n - 1)) end print(go(100)) print(status(fresh))",
		"true\ttrue\tfalse\tcannot resume a dead coroutine\ndead\n")
	puts(t, threads+"local main = running() local function go(n) if n == 0 then return resume(main) end return select(2, resume(create(go), n - 1)) end print(go(100))",
		"false\tcannot resume a coroutine that is not suspended\n")
	puts(t, threads+"local c c = create(function() local x <close> = setmetatable({}, {__close = function() local n = 0 local function go() n = n + 1 resume(create(go)) end go() print(n) end}) yield() end) resume(c) close(c)", "100\n")
}

// Promise 20: threads resumed in any order go on each where it was.
func TestEvaluateThreadsInAnyOrder(t *testing.T) {
	t.Parallel()
	const makes = threads + `local t = {} for i = 1, 5 do t[i] = create(function(a)
		local sum = a for j = 1, 4 do sum = sum + yield(i, j, sum) if i == 4 and j == 3 then error("stop" .. sum, 0) end end return "end", i, sum end) end
		local function go(i, v) print(resume(t[i], v)) end `
	row := words(400)
	for round := range 40 {
		source, want := makes, ""
		turns, sums := make([]int, 6), make([]int, 6)
		for step := range 30 {
			i, v := 1+int(row[(round*7+step)%400]>>20%5), int(row[(round*11+step*3)%400]>>30%10)
			source += "go(" + intLitText(i) + ", " + intLitText(v) + ") "
			dead := turns[i] > 4 || i == 4 && turns[i] > 3
			turns[i]++
			sums[i] += v
			switch {
			case dead:
				want += "false\tcannot resume a dead coroutine\n"
			case i == 4 && turns[i] == 4:
				want += "false\tstop" + intLitText(sums[i]) + "\n"
			case turns[i] == 5:
				want += "true\tend\t" + intLitText(i) + "\t" + intLitText(sums[i]) + "\n"
			default:
				want += "true\t" + intLitText(i) + "\t" + intLitText(turns[i]) + "\t" + intLitText(sums[i]) + "\n"
			}
		}
		puts(t, source, want)
	}
}

// Threads that are never ended: the call answers all the same.
func TestEvaluateThreadsLeftWaiting(t *testing.T) {
	t.Parallel()
	for _, r := range [][2]string{
		{"local t = {} for i = 1, 500 do t[i] = create(function() yield(i) write('no') end) resume(t[i]) end write('end')", "end"},
		{"for i = 1, 500 do resume(create(yield)) end write('end')", "end"},
		{"local function f() local x <close> = setmetatable({}, {__close = function() write('no') end}) pcall(yield) write('no') end for i = 1, 50 do resume(create(f)) end write('end')", "end"},
		{"local a = create(function() local b = create(function() yield() end) resume(b) yield() end) resume(a) write('end')", "end"},
		{"create(function() write('no') end) write('end')", "end"},
		{"local x <close> = setmetatable({}, {__close = function() resume(create(yield)) write('closed') end}) resume(create(yield)) ", "closed"},
		{"resume(create(function() for i in wrap(function() yield(1) yield(2) end) do yield(i) end end)) write('end')", "end"},
		{"resume(create(function() local x <close> = setmetatable({}, {__close = function() yield() write('no') end}) end)) write('end')", "end"},
		{"resume(create(function() local x <close> = setmetatable({}, {__close = function() yield() write('no') end}) yield() end)) write('end')", "end"},
		{"for i = 1, 9 do resume(create(function() local x <close> = setmetatable({}, {__close = yield}) local y <close> = setmetatable({}, {__close = yield}) pcall(yield) end)) end write('end')", "end"},
	} {
		puts(t, threads+r[0], r[1])
	}
	got := ran(t, threads+"for i = 1, 20 do resume(create(function() pcall(yield) write('no') end)) end error('e')", plenty())
	if got.Code != impl.OutError || got.Output != "" {
		t.Errorf("%s", outcomeText(got))
	}
	limits := plenty()
	limits.Steps = 300
	got = ran(t, threads+"local function f() resume(create(yield)) wrap(f)() end f()", limits)
	if got.Code != impl.OutBudget {
		t.Errorf("%s", outcomeText(got))
	}
}

func TestEvaluateThreadArguments(t *testing.T) {
	t.Parallel()
	for _, name := range strings.Fields("resume status close") {
		for v, kind := range map[string]string{"": "no value", "nil": "nil", "1": "number", "'x'": "string", "true": "boolean", "{}": "table", "print": "function", "type": "function"} {
			fails(t, "coroutine."+name+"("+v+")", "1: bad argument #1 to 'coroutine."+name+"' (thread expected, got "+kind+")")
		}
	}
	for v, kind := range map[string]string{"": "no value", "nil": "nil", "1": "number", "'x'": "string", "true": "boolean", "{}": "table", "coroutine.running()": "thread",
		"setmetatable({}, {__call = print})": "table"} {
		fails(t, "coroutine.create("+v+")", "1: bad argument #1 to 'coroutine.create' (function expected, got "+kind+")")
	}
	eachLine(t, threads, `
		status(create(print), 1, {}) => suspended
		running(1, 2) => thread: 1 true
		isyieldable({}) => false
		close(create(print), 1) => true
		rawtostring(create(print, 1)) => thread: 2
		pcall(yield) => false attempt to yield outside of a coroutine
	`)
}
