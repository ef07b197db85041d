package tests

import (
	"fmt"
	"strings"
	"testing"

	"loop.example/g00002/impl"
)

// Promise 24: the pace changes nothing but Live and Bytes where nothing hangs on it.
func TestExecAtEachPace(t *testing.T) {
	t.Parallel()
	texts := append(modestTexts(150), alone...)
	changed := 0
	for i, source := range texts {
		chunk, fault := impl.Compile(source)
		if fault.Code != 0 || hangsOnCollector(source) {
			continue
		}
		limits := someLimits(i)
		first := impl.Exec(chunk, limits)
		for _, pace := range []int{1, 2, 10, 50, 100} {
			limits.Pace = pace
			got := impl.Exec(chunk, limits)
			if !sameBut(got, first) {
				t.Errorf("%s\npace 0: %s\npace %d: %s", behindHead(source), outcomeText(first), pace, outcomeText(got))
			}
			if got.Live < first.Live {
				changed++
			}
		}
	}
	if changed < 100 {
		t.Errorf("the pace changes something but %d times", changed)
	}
}

// The faster the collector goes, the fewer objects are there at the end; without it all are.
func TestExecLiveByPace(t *testing.T) {
	t.Parallel()
	chunk := compiled(t, "for i = 1, 2000 do local t = {{}, {}} end")
	const all = 3 * 2000
	for pace, most := range map[int]int{0: all, 1: all / 2, 10: all / 10, 100: all / 10} {
		got := checkMachine(t, "garbage", chunk, paced(pace))
		if got.Live-firstLive > most || pace == 0 && got.Live != firstLive+all || got.Live < firstLive-1 {
			t.Errorf("pace %d: %s", pace, outcomeText(got))
		}
	}
	// What is held stays at any pace.
	chunk = compiled(t, "local t = {} for i = 1, 500 do t[i] = {i} end local n = 0 for i = 1, 500 do n = n + t[i][1] end return n, #t")
	for _, pace := range paces() {
		got := checkMachine(t, "held", chunk, paced(pace))
		if toldShort(got) != "= 125250 500" || got.Live < firstLive-1+501 {
			t.Errorf("pace %d: %s", pace, outcomeText(got))
		}
	}
}

// A table of n tables is 40 for itself, 40 for each entry and 40 for each table.
func tableOf(n int) string { return "{" + strings.TrimSuffix(strings.Repeat("{},", n), ",") + "}" }

// Memory at just what is held, one below and far below. Behind a Full the closure of the prelude's text is gone.
func TestExecMemory(t *testing.T) {
	t.Parallel()
	for _, n := range []int{0, 1, 5, 100} {
		// The table stands in register 0, the last of its items in register 1.
		source := "local t = " + tableOf(n) + "\nlocal x\nlocal y"
		chunk := compiled(t, source)
		held := firstBytes - 40 + 40 + 80*n
		for _, pace := range paces() {
			limits := paced(pace)
			for _, c := range []struct {
				memory int
				want   string
			}{{held, "="}, {held + 1, "="}, {held + 40, "="}, {held - 1, "! 2: not enough memory"}, {impl.HeapStart, "! 1: not enough memory"}, {impl.MaxMemory, "="}, {0, "="}} {
				limits.Memory = c.memory
				got := checkMachine(t, source, chunk, limits)
				if toldShort(got) != c.want {
					t.Errorf("%d tables, pace %d, memory %d: %s, not %s", n, pace, c.memory, outcomeText(got), c.want)
				}
			}
		}
	}
}

// What nothing holds is freed ahead of failing, whatever the pace.
func TestExecMemoryIsFreed(t *testing.T) {
	t.Parallel()
	for _, pace := range paces() {
		limits := paced(pace)
		limits.Memory = 8000
		for _, source := range []string{
			"for i = 1, 3000 do local t = {{}} end return 'done'",
			"for i = 1, 500 do local f = function() return i end f() end return 'done'",
			"for i = 1, 300 do local c = coroutine.wrap(function() coroutine.yield(i) end) c() end return 'done'",
			"local t = {} for i = 1, 3000 do t[i % 10] = {i} end return 'done'",
			"local t = setmetatable({}, {__mode = 'v'}) for i = 1, 15 do t[i] = {i} end return 'done'",
		} {
			if got := checkMachine(t, source, compiled(t, source), limits); toldShort(got) != "= done" {
				t.Errorf("pace %d: %s: %s", pace, source, outcomeText(got))
			}
		}
	}
}

// The failure can be caught, and the run goes on.
func TestExecMemoryIsCaught(t *testing.T) {
	t.Parallel()
	// The Tick of a turn, in the loop's line, is the first behind what is made.
	const fill = "local t = {} for i = 1, 1000 do\nt[i] = {} end"
	for _, r := range [][2]string{
		{fill, "! 1: not enough memory"},
		{"\n" + fill, "! 2: not enough memory"},
		{"write(select(2, pcall(function() " + fill + " end))) write(' on') local t = {{}, {}, {}} write(#t)", "1: not enough memory on3 ="},
		{"for i = 1, 3 do write(select(2, pcall(function()\n" + fill + " end))) write(' ') end", "2: not enough memory 2: not enough memory 2: not enough memory  ="},
		{"local c = coroutine.create(function() " + fill + " end) write(select(2, coroutine.resume(c))) write(' ', coroutine.status(c))", "1: not enough memory dead ="},
		{"local c = coroutine.wrap(function() pcall(function() " + fill + " end) coroutine.yield('on') return 'end' end) write(c(), c())", "onend ="},
		{"xpcall(function() " + fill + " end, function(e) write('handled ', e) end)", "handled 1: not enough memory ="},
		// What is closed while the table is still in its register fails likewise.
		{closer + "pcall(function() local x <close> = c('x') " + fill + " end) write('on')", "on ="},
		{closer + "pcall(function() local x <close> = c('x');(function() " + fill + " end)() end) write('on')", "x(1: not enough memory) on ="},
		{closer + "write(select(2, pcall(function() local y <close> = c('y') local x <close> = c('x', function() " + fill + " end) end)))", "x(nil) y(1: not enough memory) 1: not enough memory ="},
		{"setmetatable({}, {__gc = function() " + fill + " end}) local x collectgarbage() x = 1 write('on')", "on ="},
		{"setmetatable({}, {__gc = function() write(select(2, pcall(function() " + fill + " end))) end}) local x collectgarbage() x = 1 write(' on')", "1: not enough memory on ="},
		// Where the globals hold what is too much, the next Tick fails too.
		{"t = {} local function f() for i = 1, 1000 do\nt[i] = {} end end write(select(2, pcall(f)))\nwrite(' no')", "1: not enough memory ! 3: not enough memory"},
		{"t = {} local function f() for i = 1, 1000 do\nt[i] = {} end end pcall(function() f() end)\nt = nil write(' no')", "! 3: not enough memory"},
		{"t = {} local function f() for i = 1, 1000 do\nt[i] = {} end end pcall(pcall, f)", "="},
	} {
		limits := paced(1)
		limits.Memory = 20000
		for _, pace := range paces() {
			limits.Pace = pace
			if got := checkMachine(t, r[0], compiled(t, r[0]), limits); strings.TrimSpace(toldShort(got)) != r[1] {
				t.Errorf("pace %d: %s\n%s\nnot %s", pace, r[0], outcomeText(got), r[1])
				break
			}
		}
	}
}

func TestExecCollectGarbage(t *testing.T) {
	t.Parallel()
	for _, r := range [][2]string{
		{"return collectgarbage()", "= 0"},
		{"return collectgarbage('collect')", "= 0"},
		{"return collectgarbage(nil)", "= 0"},
		{"return collectgarbage(nil, nil)", "= 0"},
		{"return collectgarbage('collect', 5)", "= 0"},
		{"return collectgarbage('stop')", "= 0"},
		{"return collectgarbage('restart')", "= 0"},
		{"return collectgarbage('count')", fmt.Sprint("= ", firstBytes)},
		{"return collectgarbage(nil) + collectgarbage('count')", fmt.Sprint("= ", firstBytes-40)},
		{"local a = collectgarbage('count') local t = {1, 2} local b = collectgarbage('count') return b - a, math.type(a)", "= 120 integer"},
		{"return collectgarbage('step')", "= false"},
		{"return collectgarbage('step', 0)", "= false"},
		{"return collectgarbage('step', 1)", "= false"},
		{"return collectgarbage('step', -5)", "= false"},
		{"return collectgarbage('step', math.mininteger)", "= false"},
		{"return collectgarbage('step', 1000000)", "= true"},
		{"return collectgarbage('step', math.maxinteger)", "= true"},
		{"return collectgarbage('step', 1e6)", "= true"},
		{"return collectgarbage('step', nil)", "= false"},
		{"return collectgarbage('step', 1.5)", "! 1: bad argument #2 to 'collectgarbage' (number has no integer representation)"},
		{"return collectgarbage('step', '1')", "! 1: bad argument #2 to 'collectgarbage' (number expected, got string)"},
		{"return collectgarbage('step', {})", "! 1: bad argument #2 to 'collectgarbage' (number expected, got table)"},
		{"return collectgarbage('no')", "! 1: bad argument #1 to 'collectgarbage' (invalid option)"},
		{"return collectgarbage('')", "! 1: bad argument #1 to 'collectgarbage' (invalid option)"},
		{"return collectgarbage('Collect')", "! 1: bad argument #1 to 'collectgarbage' (invalid option)"},
		{"return collectgarbage(5)", "! 1: bad argument #1 to 'collectgarbage' (invalid option)"},
		{"return collectgarbage('no', 'x')", "! 1: bad argument #2 to 'collectgarbage' (number expected, got string)"},
		{"return collectgarbage({}, 'x')", "! 1: bad argument #1 to 'collectgarbage' (string expected, got table)"},
		{"return collectgarbage(true)", "! 1: bad argument #1 to 'collectgarbage' (string expected, got boolean)"},
		{"return pcall(collectgarbage, 'no')", "= false bad argument #1 to 'collectgarbage' (invalid option)"},
		{"local n = 0 repeat n = n + 1 until collectgarbage('step', 10) return n > 5 and n < 40, collectgarbage('step', 1)", "= true false"},
		{"collectgarbage('step') return collectgarbage('step', 1000000), collectgarbage('count')", fmt.Sprint("= true ", firstBytes-40)},
		{"return coroutine.wrap(function() return collectgarbage('count') end)()", fmt.Sprint("= ", firstBytes+40+400+48+40+40+64)},
		{"local c = coroutine.wrap(function() local t = {} collectgarbage() coroutine.yield(#t) return collectgarbage('step', 1000000) end) return c(), c()", "= 0 true"},
		{"setmetatable({}, {__gc = function() write(collectgarbage(), rawtostring(collectgarbage('step', 1)), type(collectgarbage('count'))) end}) local x collectgarbage() x = 1", "0falsenumber ="},
	} {
		comesOut(t, r[0], r[1])
	}
}

// stop and restart at each pace: whether what is left behind is freed by itself.
func TestExecStopAndRestart(t *testing.T) {
	t.Parallel()
	const garbage = "for i = 1, 300 do local t = {{}, {}} end "
	for _, r := range []struct {
		source string
		frees  bool
	}{
		{garbage, true}, {"collectgarbage('stop') " + garbage, false}, {"collectgarbage('stop') collectgarbage('restart') " + garbage, true},
		{"collectgarbage('restart') " + garbage, true}, {"collectgarbage('stop') collectgarbage('stop') collectgarbage('restart') " + garbage, true},
		{"collectgarbage('restart') collectgarbage('stop') " + garbage, false}, {"coroutine.wrap(function() collectgarbage('stop') end)() " + garbage, false},
		{"pcall(function() collectgarbage('stop') error() end) " + garbage, false},
	} {
		for _, pace := range paces() {
			got := checkMachine(t, r.source, compiled(t, r.source), paced(pace))
			if frees := got.Live < firstLive+700; frees != (r.frees && pace > 0) {
				t.Errorf("pace %d: %s: %s", pace, r.source, outcomeText(got))
			}
		}
	}
	// A stopped collector collects what it is asked to, and what memory asks for. (The registers of the last turn's tables go
	// on holding those.)
	for _, pace := range paces() {
		limits := paced(pace)
		limits.Memory = 8000
		source := "collectgarbage('stop') " + garbage + "return 'on'"
		if got := checkMachine(t, source, compiled(t, source), limits); toldShort(got) != "= on" {
			t.Errorf("pace %d: %s", pace, outcomeText(got))
		}
		source = "collectgarbage('stop') " + garbage + "local t collectgarbage()"
		if got := checkMachine(t, source, compiled(t, source), paced(pace)); got.Live != firstLive-1+3 {
			t.Errorf("pace %d: %s", pace, outcomeText(got))
		}
		source = "collectgarbage('stop') " + garbage + "local t return collectgarbage('step', 1000000)"
		if got := checkMachine(t, source, compiled(t, source), paced(pace)); got.Live != firstLive-1+3 || toldShort(got) != "= true" {
			t.Errorf("pace %d: %s", pace, outcomeText(got))
		}
	}
}

// Credit is 0 behind the prelude: in a chunk without a Tick ahead, a cycle that is begun by hand isn't gone on with at the first
// Tick, as what the text itself has made is less than a grain.
func TestExecCreditAtTheBeginning(t *testing.T) {
	t.Parallel()
	const begin = "regs 9 line 1 dots consts \"collectgarbage\" \"step\"\n1: GetGlobal 0 0; Const 1 1; Int 2 1; Call 0 3 1; "
	for _, r := range []struct {
		more string
		live int
	}{
		{"Tick; Return 0 1", firstLive},
		// Five tables with the text's closure are 240 bytes, six are 280.
		{"Table 3; Table 3; Table 3; Table 3; Table 3; Tick; Return 0 1", firstLive + 5},
		{"Table 3; Table 3; Table 3; Table 3; Table 3; Table 3; Tick; Return 0 1", firstLive - 1 + 1},
	} {
		got := checkMachine(t, r.more, coded(t, begin+r.more), paced(100))
		if got.Live != r.live {
			t.Errorf("%s: %s, not %d", r.more, outcomeText(got), r.live)
		}
	}
}

// A step is brought to a million units, which is less than all the work of a great heap.
func TestExecGreatestStep(t *testing.T) {
	t.Parallel()
	source := "local t = {} for i = 1, 120 do t[i] = {" + times("1,", 9000) + "} end return collectgarbage('step', math.maxinteger), collectgarbage('step', math.maxinteger)"
	if got := impl.Exec(compiled(t, source), paced(0)); toldShort(got) != "= false true" {
		t.Errorf("%s", outcomeText(got))
	}
}
