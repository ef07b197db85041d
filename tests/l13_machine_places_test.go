package tests

import "testing"

// The place of a message is the line of the instruction, be the lines in whatever order.
func TestExecPlaces(t *testing.T) {
	t.Parallel()
	for _, r := range [][2]string{
		{"9: Tick; 3: Int 0 1; 70: GetField 1 0 0; 5: Return 0 1", "! 70: attempt to index a number value"},
		{"9: Tick; 3: GetIndex 0 0 0; 70: Return 0 1", "! 3: attempt to index a nil value"},
		{"9: Tick; 0: GetIndex 0 0 0; 70: Return 0 1", "! 0: attempt to index a nil value"},
		{"9: Tick; 2147483647: SetField 0 0 0; 70: Return 0 1", "! 2147483647: attempt to index a nil value"},
		{"9: SetItem 0 1 0; 1: Return 0 1", "! 9: attempt to index a nil value"},
		{"2: Dots 1 0; 9: SetList 0 1; 1: Return 0 1", "! 9: attempt to index a nil value"},
		{"9: SetIndex 0 0 0; 1: Return 0 1", "! 9: attempt to index a nil value"},
		{"9: Self 0 0 0; 1: Return 0 1", "! 9: attempt to index a nil value"},
		{"9: Add 0 0 0; 1: Return 0 1", "! 9: attempt to do arithmetic on a nil value"},
		{"9: Neg 0 0; 1: Return 0 1", "! 9: attempt to do arithmetic on a nil value"},
		{"9: Concat 0 0 0; 1: Return 0 1", "! 9: attempt to concatenate a nil value"},
		{"9: Lt 0 0 0; 1: Return 0 1", "! 9: attempt to compare two nil values"},
		{"9: Le 0 0 0; 1: Return 0 1", "! 9: attempt to compare two nil values"},
		{"9: Len 0 0; 1: Return 0 1", "! 9: attempt to get length of a nil value"},
		{"9: Call 0 1 1; 1: Return 0 1", "! 9: attempt to call a nil value"},
		{"9: Tail 0 1; 1: Return 0 1", "! 9: attempt to call a nil value"},
		{"9: Each 0 1; 1: Return 0 1", "! 9: attempt to call a nil value"},
		{"9: ForPrep 0 a; a: 1: Return 0 1", "! 9: 'for' start must be a number"},
		{"2: Jump b; a: 3: Tick; 4: Jump a; 9: b: ForLoop 0 a; 1: Return 0 1", "! 9: 'for' loop over what are no numbers"},
		{"3: Int 0 1; 9: Tbc 0; 1: Return 0 1", "! 9: variable got a number value that cannot be closed"},
		{`4: GetGlobal 0 1; 9: Call 0 1 1; 1: Return 0 1`, "! 9: bad argument #1 to 'rawlen' (table expected, got no value)"},
		{`4: GetGlobal 0 2; 5: Const 1 0; 9: Call 0 2 1; 1: Return 0 1`, "! 9: x"},
		{`4: GetGlobal 0 2; 5: Const 1 0; 9: Tail 0 2; 1: Return 0 1`, "! 9: x"},
	} {
		chunk := coded(t, "regs 8 line 6 dots consts \"x\" \"rawlen\" \"error\"\n"+r[0])
		for _, pace := range paces() {
			if got := toldShort(checkMachine(t, r[0], chunk, paced(pace))); got != r[1] {
				t.Errorf("%s: %s, not %s", r[0], got, r[1])
			}
		}
	}
}

// The levels of error: frames from the top, those of pcalls and finalizers too.
func TestExecLevels(t *testing.T) {
	t.Parallel()
	for _, r := range [][2]string{
		{"local function f()\nerror('e', 1) end\nf()", "! 2: e"},
		{"local function f()\nerror('e', 2) end\nf()", "! 3: e"},
		{"local function f()\nerror('e', 3) end\nf()", "! e"},
		{"local function f()\nerror('e', 0) end\nf()", "! e"},
		{"local function f()\nerror('e', 1) end\nwrite(select(2, pcall(f)))", "2: e ="},
		{"local function f()\nerror('e', 2) end\nwrite(select(2, pcall(f)))", "e ="},
		{"local function f()\nerror('e', 3) end\nwrite(select(2, pcall(f)))", "3: e ="},
		{"local function f()\nerror('e', 4) end\nwrite(select(2, pcall(f)))", "e ="},
		{"local function f()\nerror('e', 4) end\nwrite((select(3, pcall(pcall, f))))", "3: e ="},
		{"local co = coroutine.create(function()\nerror('e', 2) end)\nwrite(select(2, coroutine.resume(co)))", "e ="},
		{"local co = coroutine.create(function()\nerror('e') end)\nwrite(select(2, coroutine.resume(co)))", "2: e ="},
		{"write(select(2, pcall(error, 'e')))", "e ="},
		{"write(select(2, pcall(error, 'e', 2)))", "1: e ="},
		{"write(select(2, pcall(setmetatable({}, {__index = function()\nerror('e', 2) end}).x)))", "! 2: e"},
		// In a finalizer: the closure, the finalizer's frame, the one at the Tick.
		{"local function g(n) setmetatable({}, {__gc = function()\nwrite(select(2, pcall(error, 'e', n)), ' ') end}) end g(2) g(3) g(4) g(5) local x\ncollectgarbage()\nx = 1\nx = 1\nx = 1\nx = 1\nx = 1", "e 5: e e 2: e  ="},
		{"local function g(n) setmetatable({}, {__gc = function()\nlocal function f() error('e', n) end write((select(2, pcall(f))), ' ') end}) end g(1) g(3) g(4) g(5) local x\ncollectgarbage()\nx = 1\nx = 1\nx = 1\nx = 1\nx = 1",
			"4: e e 2: e 2: e  ="},
	} {
		comesOut(t, r[0], r[1])
	}
}
