package tests

import (
	"fmt"
	"strings"
	"testing"

	"loop.example/g00002/impl"
)

var eventNames = map[int]string{
	impl.EventStep: "step", impl.EventCall: "call", impl.EventTail: "tail", impl.EventReturn: "return", impl.EventLeft: "left",
	impl.EventResume: "resume", impl.EventYield: "yield", impl.EventEnd: "end", impl.EventCycle: "cycle", impl.EventFinal: "final",
}

// eventsText tells events: the kind, thread and depth, and behind @ the line if it isn't 0; those of one thread and depth
// behind each other in a row.
func eventsText(events []impl.Event) string {
	var rows []string
	var last impl.Event
	for i, e := range events {
		word := eventNames[e.Kind]
		if e.Line != 0 {
			word += fmt.Sprintf("@%d", e.Line)
		}
		if i > 0 && e.Thread == last.Thread && e.Depth == last.Depth {
			rows[len(rows)-1] += " " + word
		} else {
			rows = append(rows, fmt.Sprintf("%d/%d %s", e.Thread, e.Depth, word))
		}
		last = e
	}
	return strings.Join(rows, "\n")
}

// hasLine are the kinds of events that tell a line.
func hasLine(kind int) bool { return kind <= impl.EventLeft }

// checkEvents holds events against promise 25: if they are whole, steps and calls are as many as Ticks; depths go by one.
func checkEvents(t *testing.T, name string, events []impl.Event, o impl.Outcome) {
	t.Helper()
	ticks := 0
	depths := map[int]int{}
	for at, e := range events {
		if eventNames[e.Kind] == "" || !hasLine(e.Kind) && e.Line != 0 || e.Thread < 1 || e.Depth < 0 {
			t.Fatalf("%s: event %d is %+v", name, at, e)
		}
		if e.Kind <= impl.EventTail {
			ticks++
		}
		depth := depths[e.Thread]
		switch {
		case e.Kind == impl.EventCall && e.Depth != depth+1, e.Kind == impl.EventEnd && e.Depth != 0, e.Kind != impl.EventCall && e.Depth != depth:
			t.Fatalf("%s: event %d is %+v, the depth was %d", name, at, e, depth)
		}
		depths[e.Thread] = e.Depth
		if e.Kind == impl.EventReturn || e.Kind == impl.EventLeft {
			depths[e.Thread]--
		}
	}
	if len(events) < impl.MaxEvents && ticks != o.Ticks || ticks > o.Ticks {
		t.Errorf("%s: %d steps and calls in %d events, %d ticks", name, ticks, len(events), o.Ticks)
	}
}

// traced holds the events of a text against those told, with a pace.
func traced(t *testing.T, source string, limits impl.Limits, want string) {
	t.Helper()
	chunk := compiled(t, source)
	checkMachine(t, source, chunk, limits)
	events, _ := impl.Trace(chunk, limits)
	if got := eventsText(events); got != bare(want) {
		t.Errorf("%s\n%s\nnot\n%s", source, got, bare(want))
	}
}

func TestTraceEvents(t *testing.T) {
	t.Parallel()
	for _, r := range [][2]string{
		{"", "1/1 call@1 return@1"},
		{"local x = 1\nx = 2\n", "1/1 call@1 step@1 step@2 return@1"},
		{"return\n1, 2", "1/1 call@1 step@1 return@1"},
		{"for i = 1, 2 do\nlocal x\nend", "1/1 call@1 step@1 step@1 step@2 step@1 step@2 return@1"},
		{"local function f()\nreturn 1\nend\nlocal x = f()\nf()", "1/1 call@1 step@1 step@4\n1/2 call@1 step@2 return@2\n1/1 step@5\n1/2 call@1 step@2 return@2\n1/1 return@1"},
		{"local function f(n)\nif n > 0 then\nreturn f(n - 1) end\nend\nf(2)",
			"1/1 call@1 step@1 step@5\n1/2 call@1 step@2 step@3 tail@1 step@2 step@3 tail@1 step@2 return@1\n1/1 return@1"},
		{"return\ntype(1)", "1/1 call@1 step@1 return@2"},
		{"return\npcall(error)", "1/1 call@1 step@1 return@2"},
		{"local f = function()\nend\nreturn f()", "1/1 call@1 step@1 step@3 tail@1 return@1"},
		{"error('e')", "1/1 call@1 step@1 left@1"},
		{"local function f()\nerror('e') end\nlocal function g()\nf() end\ng()", "1/1 call@1 step@1 step@3 step@5\n1/2 call@3 step@4\n1/3 call@1 step@2 left@2\n1/2 left@4\n1/1 left@5"},
		{"pcall(function()\nlocal x = nil + 1 end)\nlocal y", "1/1 call@1 step@1\n1/2 call@1 step@2 left@2\n1/1 step@3 return@1"},
		{"pcall(pcall, pcall, function()\nerror() end)", "1/1 call@1 step@1\n1/2 call@1 step@2 left@2\n1/1 return@1"},
		{"local t = setmetatable({}, {__index = function()\nend})\nlocal x = t.x", "1/1 call@1 step@1 step@3\n1/2 call@1 return@1\n1/1 return@1"},
		{"local t <close> = setmetatable({}, {__close = function()\nend})\nlocal x", "1/1 call@1 step@1 step@3\n1/2 call@1 return@1\n1/1 return@1"},
		{"local t <close> = setmetatable({}, {__close = function()\nerror()\nend})\nlocal x", "1/1 call@1 step@1 step@4\n1/2 call@1 step@2 left@2\n1/1 left@1"},
		{"load('\\nlocal x')()", "1/1 call@1 step@1\n1/2 call@2 step@2 return@2\n1/1 return@1"},
		{"coroutine.create(print)", "1/1 call@1 step@1 return@1"},
		{"coroutine.resume(coroutine.create(type), 1)", "1/1 call@1 step@1\n2/0 resume end\n1/1 return@1"},
		{"coroutine.resume(coroutine.create(type))", "1/1 call@1 step@1\n2/0 resume end\n1/1 return@1"},
		{"coroutine.resume(coroutine.create(coroutine.yield))", "1/1 call@1 step@1\n2/0 resume yield\n1/1 return@1"},
		{"coroutine.resume(coroutine.create(function()\nend))", "1/1 call@1 step@1\n2/0 resume\n2/1 call@1 return@1\n2/0 end\n1/1 return@1"},
		{"local c = coroutine.create(function()\ncoroutine.yield()\nlocal x\nend)\ncoroutine.resume(c)\ncoroutine.resume(c)\ncoroutine.resume(c)",
			"1/1 call@1 step@1 step@5\n2/0 resume\n2/1 call@1 step@2 yield\n1/1 step@6\n2/1 resume step@3 return@1\n2/0 end\n1/1 step@7 return@1"},
		{"local c = coroutine.create(function()\nerror()\nend)\ncoroutine.resume(c)", "1/1 call@1 step@1 step@4\n2/0 resume\n2/1 call@1 step@2 left@2\n2/0 end\n1/1 return@1"},
		{"local c = coroutine.create(function()\npcall(function()\ncoroutine.yield() end)\nend)\ncoroutine.resume(c)\ncoroutine.close(c)",
			"1/1 call@1 step@1 step@5\n2/0 resume\n2/1 call@1 step@2\n2/2 call@2 step@3 yield\n1/1 step@6\n2/2 resume left@3\n2/1 left@2\n2/0 end\n1/1 return@1"},
		{"local c = coroutine.create(print)\ncoroutine.close(c)\ncoroutine.close(c)", "1/1 call@1 step@1 step@2 step@3 return@1"},
		{"local a = coroutine.create(function()\nlocal b = coroutine.create(function()\ncoroutine.yield() end)\ncoroutine.resume(b)\nend)\ncoroutine.resume(a)",
			"1/1 call@1 step@1 step@6\n2/0 resume\n2/1 call@1 step@2 step@4\n3/0 resume\n3/1 call@2 step@3 yield\n2/1 return@1\n2/0 end\n1/1 return@1"},
		{"local f = coroutine.wrap(function() end)\nf()",
			"1/1 call@1 step@1\n1/2 call@50 step@51 step@52 step@56 return@56\n1/1 step@2\n1/2 call@56 step@56\n2/0 resume\n2/1 call@1 return@1\n2/0 end\n1/2 tail@52 step@53 step@53 return@53\n1/1 return@1"},
	} {
		traced(t, r[0], paced(0), r[1])
	}
}

// Where several come at one Tick: the step, the end of a cycle, the finalizer, its call.
func TestTraceOfCollector(t *testing.T) {
	t.Parallel()
	const make = "setmetatable({}, {__gc = function()\nend})\n"
	for _, r := range [][2]string{
		{"collectgarbage()", "1/1 call@1 step@1 cycle return@1"},
		{"collectgarbage('step', 1000000)", "1/1 call@1 step@1 cycle return@1"},
		{"collectgarbage('step', 1)", "1/1 call@1 step@1 return@1"},
		{"collectgarbage('step', 1)\ncollectgarbage()\ncollectgarbage('step', 1)\ncollectgarbage('step', 1000000)", "1/1 call@1 step@1 step@2 cycle step@3 step@4 cycle return@1"},
		{"collectgarbage('count') collectgarbage('stop') collectgarbage('restart')", "1/1 call@1 step@1 step@1 step@1 return@1"},
		{make + "local x\ncollectgarbage()\nlocal y\nlocal z", "1/1 call@1 step@1 step@3 step@4 cycle step@5 final\n1/2 call@1 return@1\n1/1 step@6 return@1"},
		{make + make + "local x\ncollectgarbage()\nlocal y\nlocal z\nlocal w",
			"1/1 call@1 step@1 step@3 step@5 step@6 cycle step@7 final\n1/2 call@3 return@3\n1/1 step@8 final\n1/2 call@1 return@1\n1/1 step@9 return@1"},
		{"setmetatable({}, {__gc = write}) local x\ncollectgarbage()\nlocal y", "1/1 call@1 step@1 step@1 step@2 cycle step@3 final return@1"},
		{"setmetatable({}, {__gc = 5}) local x\ncollectgarbage()\nlocal y", "1/1 call@1 step@1 step@1 step@2 cycle step@3 final return@1"},
		{"local m = {__gc = 5} setmetatable({}, m) m.__gc = nil\ncollectgarbage()\nlocal y", "1/1 call@1 step@1 step@1 step@1 step@2 cycle step@3 return@1"},
		{"setmetatable({}, {__gc = function()\nerror()\nend}) local x\ncollectgarbage()\nlocal y", "1/1 call@1 step@1 step@3 step@4 cycle step@5 final\n1/2 call@1 step@2 left@2\n1/1 return@1"},
		{"coroutine.wrap(function() setmetatable({}, {__gc = function()\nend}) local x\ncollectgarbage()\nlocal y\nend)()",
			"1/1 call@1 step@1\n1/2 call@50 step@51 step@52 step@56 return@56 call@56 step@56\n2/0 resume\n2/1 call@1 step@1 step@2 step@3 cycle step@4 final\n2/2 call@1 return@1\n2/1 return@1\n" +
				"2/0 end\n1/2 tail@52 step@53 step@53 return@53\n1/1 return@1"},
	} {
		traced(t, r[0], paced(0), r[1])
	}
}

func TestTraceAtPaces(t *testing.T) {
	t.Parallel()
	// The library alone is above the first limit, so that the first Tick begins a cycle.
	limits := paced(1)
	events, _ := impl.Trace(compiled(t, "for i = 1, 200 do local t = {{}} end"), limits)
	cycles := 0
	for at, e := range events {
		if e.Kind == impl.EventCycle {
			cycles++
			if events[at-1].Kind != impl.EventStep {
				t.Errorf("event %d comes behind %v", at, events[at-1])
			}
		}
	}
	if cycles < 2 {
		t.Errorf("%d cycles in %d events", cycles, len(events))
	}
	// A cycle that begins and ends in one turn isn't told.
	traced(t, "local x\nlocal y\nlocal z", paced(100), "1/1 call@1 step@1 step@2 step@3 return@1")
	// One that goes on over several is.
	traced(t, "local x = {{}, {}, {}}\nlocal y = {{}, {}, {}}\nlocal z = {{}, {}, {}}\nx = {{}, {}, {}, {}, {}, {}, {}, {}}\ny = nil\ny = nil\ny = nil", paced(2),
		"1/1 call@1 step@1 step@2 cycle step@3 step@4 step@5 step@6 step@7 return@1")
	// By memory: behind each Full.
	limits = paced(0)
	limits.Memory = 6000
	// The library and the text's closure are 5000 bytes, the table in the first line 920 more: the second one is too much, and
	// the first is freed for it.
	const table = "{{}, {}, {}, {}, {}, {}, {}, {}, {}, {}, {}}"
	traced(t, "local x = "+table+"\nx = "+table+"\nx = nil\nx = nil", limits, "1/1 call@1 step@1 step@2 step@3 cycle step@4 return@1")
	traced(t, "local x = {{}, {}, {}, {}, {}, {}, {}, {}, {}, {}, {}, {}, {}, {}, {}, {}}\nx = nil\nx = nil", limits, "1/1 call@1 step@1 step@2 cycle left@2")
	traced(t, "pcall(function()\nlocal x = {{}, {}, {}, {}, {}, {}, {}, {}, {}, {}, {}, {}, {}, {}, {}, {}}\nx = nil end)\nlocal x\nlocal y", limits,
		"1/1 call@1 step@1\n1/2 call@1 step@2 step@3 cycle left@3\n1/1 step@4 cycle step@5 return@1")
}

// The first MaxEvents are told.
func TestTraceOfMany(t *testing.T) {
	t.Parallel()
	for _, turns := range []int{1993, 1994, 1995, 1996, 1997, 1998, 1999, 2000, 2001, 5000} {
		source := fmt.Sprintf("for i = 1, %d do\nend", turns)
		chunk := compiled(t, source)
		limits := paced(0)
		checkMachine(t, source, chunk, limits)
		events, o := impl.Trace(chunk, limits)
		// A call, the step of the statement, one for each turn, the return.
		if want := min(turns+3, impl.MaxEvents); len(events) != want || o.Ticks != turns+2 || o.Code != 0 {
			t.Errorf("%d turns: %d events, %s", turns, len(events), outcomeText(o))
		}
	}
	limits := paced(0)
	for _, steps := range []int{1, 2, 3, 1999, 2000, 2001, 3000} {
		limits.Steps = steps
		chunk := compiled(t, "while true do end")
		events, o := impl.Trace(chunk, limits)
		if len(events) != min(steps, impl.MaxEvents) || o.Code != impl.OutBudget || o.Ticks != steps {
			t.Errorf("%d steps: %d events, %s", steps, len(events), outcomeText(o))
		}
	}
}

// Without a run there are no events.
func TestTraceOfNoRun(t *testing.T) {
	t.Parallel()
	chunk := compiled(t, "write('x')")
	for _, c := range []struct {
		chunk  impl.Chunk
		limits impl.Limits
		code   int
	}{
		{chunk, impl.Limits{}, impl.OutLimits}, {impl.Chunk{}, impl.Limits{}, impl.OutLimits}, {impl.Chunk{}, plenty(), impl.OutChunk},
		{impl.Chunk{Protos: []impl.Proto{{}}}, plenty(), impl.OutChunk},
	} {
		if events, o := impl.Trace(c.chunk, c.limits); len(events) != 0 || !sameOutcome(o, impl.Outcome{Code: c.code}) {
			t.Errorf("%v: %d events, %s", c.limits, len(events), outcomeText(o))
		}
	}
}
