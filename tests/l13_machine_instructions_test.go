package tests

import (
	"strings"
	"testing"

	"loop.example/g00002/impl"
)

// instructionRows carry instructions out in a function of six registers, of which five have the arguments told, and hold
// what all six have then against what is told. A row has the instructions, the arguments, and what comes of it.
func instructionRows(t *testing.T, ahead, rows string) {
	t.Helper()
	for _, row := range strings.Split(strings.TrimSpace(rows), "\n") {
		parts := strings.Split(row, "|")
		if len(parts) != 3 {
			t.Fatalf("%q", row)
		}
		code := strings.TrimSpace(parts[0])
		splicedTo(t, "local function f() end "+ahead+" return f("+strings.TrimSpace(parts[1])+")",
			`regs 6 line 7 params 5 dots consts "x" 70000 2.5 "" "write"
			7: Tick; `+code+`; 8: Return 0 7`, strings.TrimSpace(parts[2]))
	}
}

func TestExecPlainInstructions(t *testing.T) {
	t.Parallel()
	instructionRows(t, "", `
		Tick                    | 1, 2, 3, 4, 5   | = 1 2 3 4 5 nil
		Move 0 4                | 1, 2, 3, 4, 5   | = 5 2 3 4 5 nil
		Move 5 0                | 1, 2, 3, 4, 5   | = 1 2 3 4 5 1
		Move 3 3                | 1, 2, 3, 4, 5   | = 1 2 3 4 5 nil
		Move 0 1                | 1, 'a', 3, 4, 5 | = a a 3 4 5 nil
		Move 0 1                | 1, {}, 3        | = table: 6 table: 6 3 nil nil nil
		Nil 0 1                 | 1, 2, 3, 4, 5   | = nil 2 3 4 5 nil
		Nil 1 3                 | 1, 2, 3, 4, 5   | = 1 nil nil nil 5 nil
		Nil 0 6                 | 1, 2, 3, 4, 5   | = nil nil nil nil nil nil
		Nil 5 1                 | 1, 2, 3, 4, 5   | = 1 2 3 4 5 nil
		Bool 1 0                | 1, 2, 3, 4, 5   | = 1 false 3 4 5 nil
		Bool 5 1                | 1, 2, 3, 4, 5   | = 1 2 3 4 5 true
		Int 2 -32768            | 1, 2, 3, 4, 5   | = 1 2 -32768 4 5 nil
		Int 2 32767             | 1, 2, 3, 4, 5   | = 1 2 32767 4 5 nil
		Int 2 0                 | 1, 2, 3, 4, 5   | = 1 2 0 4 5 nil
		Const 0 0; Const 1 1; Const 2 2; Const 3 3 | 1, 2, 3, 4, 5 | = x 70000 2.5  5 nil
		Not 0 1; Not 1 2; Not 2 3; Not 3 4; Not 4 5 | 1, nil, false, 0, '' | = true true false false true nil
		Not 0 0                 | {}              | = false nil nil nil nil nil
		Not 0 0                 | type            | = false nil nil nil nil nil
		Table 0; Table 5        | 1, 2, 3, 4, 5   | = table: 6 2 3 4 5 table: 7
		Table 0; Table 0        | 1               | = table: 7 nil nil nil nil nil
		GetGlobal 0 4           | 1, 2            | = builtin: write 2 nil nil nil nil
		GetGlobal 0 0           | 1, 2            | = nil 2 nil nil nil nil
		SetGlobal 1 0; GetGlobal 2 0; SetGlobal 5 0; GetGlobal 3 0 | 1, 2, 3, 4, 5 | = 1 2 2 nil 5 nil
		SetGlobal 1 3; GetGlobal 2 3 | 1, 2, 3    | = 1 2 2 nil nil nil
		Dots 0 1                | 1, 2, 3, 4, 5, 6, 7 | = 1 2 3 4 5 nil
		Dots 0 2                | 1, 2, 3, 4, 5, 6, 7 | = 6 2 3 4 5 nil
		Dots 3 4                | 1, 2, 3, 4, 5, 6, 7 | = 1 2 3 6 7 nil
		Dots 0 7                | 1, 2, 3, 4, 5, 6, 7 | = 6 7 nil nil nil nil
		Dots 1 3                | 1, 2, 3, 4, 5   | = 1 nil nil 4 5 nil
	`)
	// The globals are read and set raw.
	instructionRows(t, "setmetatable(_G, {__index = function() return 'no' end, __newindex = function() error('no') end})", `
		GetGlobal 0 0           | 1, 2            | = nil 2 nil nil nil nil
		SetGlobal 1 0; GetGlobal 0 0 | 1, 2       | = 2 2 nil nil nil nil
	`)
	// Further arguments are those beyond the parameters, none of a function that has no dots.
	splicedTo(t, "local function f() end return f(1, 2, 3)", "regs 3 line 1 params 1\n1: Return 0 4", "= 1 nil nil")
	splicedTo(t, "local function f() end return f(1, 2, 3)", "regs 3 line 1 dots\n1: Dots 0 4; Return 0 4", "= 1 2 3")
	splicedTo(t, "local function f() end return f(1, 2, 3)", "regs 3 line 1 params 3 dots\n1: Dots 0 0; Return 0 0", "=")
}

func TestExecJumps(t *testing.T) {
	t.Parallel()
	instructionRows(t, "", `
		Jump a; Nil 0 6; a: Tick              | 1, 2, 3, 4, 5 | = 1 2 3 4 5 nil
		JumpIf 0 a; Nil 1 5; a: Tick          | 1, 2, 3       | = 1 2 3 nil nil nil
		JumpIf 0 a; Nil 1 5; a: Tick          | '', 2         | =  2 nil nil nil nil
		JumpIf 0 a; Nil 1 5; a: Tick          | false, 2, 3   | = false nil nil nil nil nil
		JumpIf 0 a; Nil 1 5; a: Tick          | nil, 2, 3     | = nil nil nil nil nil nil
		JumpNot 0 a; Nil 1 5; a: Tick         | 1, 2, 3       | = 1 nil nil nil nil nil
		JumpNot 0 a; Nil 1 5; a: Tick         | true, 2, 3    | = true nil nil nil nil nil
		JumpNot 0 a; Nil 1 5; a: Tick         | false, 2, 3   | = false 2 3 nil nil nil
		JumpNot 0 a; Nil 1 5; a: Tick         | nil, 2, 3     | = nil 2 3 nil nil nil
		Jump b; a: Tick; Jump c; b: Jump a; c: Nil 0 1 | 1, 2  | = nil 2 nil nil nil nil
		Int 5 1; a: Tick; Sub 0 0 5; JumpIf 0 b; b: Lt 4 5 0; JumpIf 4 a | 9, 2 | = 1 2 nil nil false 1
		EachLoop 0 a; Int 1 9; a: Tick        | 1, 2, 3, nil, 5 | = 1 9 3 nil 5 nil
		EachLoop 0 a; Int 1 9; a: Tick        | 1, 2, 3, 4, 5 | = 1 2 4 4 5 nil
		EachLoop 0 a; Int 1 9; a: Tick        | 1, 2, 3, false, 5 | = 1 2 false false 5 nil
	`)
	// Back and back again: nothing but the steps ends it.
	for _, text := range []string{
		"a: Tick; Jump a", "a: Tick; Bool 0 1; JumpIf 0 a; Return 0 1", "a: Tick; Nil 0 1; JumpNot 0 a; Return 0 1", "Int 0 1; Int 1 0; Int 2 1; ForPrep 0 b; b: Int 1 9; a: Tick; Int 1 9; ForLoop 0 a; Return 0 1",
		"Int 3 1; a: Tick; EachLoop 0 a; Return 0 1", "a: Tick; Int 0 5; Int 1 1; Int 2 1; ForPrep 0 a; Return 0 1",
	} {
		chunk := coded(t, "regs 4 line 1 dots\n1: "+text)
		for _, steps := range []int{1, 2, 999, 20000} {
			limits := paced(1)
			limits.Steps = steps
			if o := checkMachine(t, text, chunk, limits); o.Code != impl.OutBudget || o.Ticks != steps {
				t.Errorf("%s: %s", text, outcomeText(o))
			}
		}
	}
}

func TestExecTableInstructions(t *testing.T) {
	t.Parallel()
	instructionRows(t, "", `
		GetIndex 0 1 2          | 1, {7, 8}, 2    | = 8 table: 6 2 nil nil nil
		GetIndex 1 1 2          | 1, {7, 8}, 2.0  | = 1 8 2.0 nil nil nil
		GetIndex 0 1 2          | 1, {7, 8}, nil  | = nil table: 6 nil nil nil nil
		GetIndex 0 1 2          | 1, 'ab', 'len'  | = builtin: string.len ab len nil nil nil
		GetIndex 0 1 2          | 1, 'ab', 1      | = nil ab 1 nil nil nil
		GetIndex 0 1 2          | 1, 5, 1         | ! 7: attempt to index a number value
		GetIndex 0 5 2          | 1, 5, 1         | ! 7: attempt to index a nil value
		GetIndex 0 1 2          | 1, true, 1      | ! 7: attempt to index a boolean value
		GetIndex 0 1 2          | 1, type, 1      | ! 7: attempt to index a function value
		GetField 0 1 0          | 1, {x = 7}      | = 7 table: 6 nil nil nil nil
		GetField 1 1 0          | 1, {x = 7}      | = 1 7 nil nil nil nil
		GetField 0 1 3          | 1, {[''] = 7}   | = 7 table: 6 nil nil nil nil
		GetField 0 1 0          | 1, 'ab'         | = nil ab nil nil nil nil
		GetField 0 1 0          | 1, coroutine.running() | ! 7: attempt to index a thread value
		Self 0 1 0              | 1, {x = 7}      | = 7 table: 6 nil nil nil nil
		Self 0 0 0              | {x = 7}, 2      | = 7 table: 6 nil nil nil nil
		Self 3 0 0              | {x = 7}, 2, 3, 4, 5 | = table: 6 2 3 7 table: 6 nil
		Self 4 5 0              | 1, 2, 3, 4, 5   | ! 7: attempt to index a nil value
		SetIndex 1 2 0          | 1, {}, 3        | = 1 table: 6 3 nil nil nil
		SetIndex 1 2 0; GetIndex 3 1 2 | 1, {}, 3 | = 1 table: 6 3 1 nil nil
		SetIndex 1 1 1; GetIndex 3 1 1 | 1, {}, 3 | = 1 table: 6 3 table: 6 nil nil
		SetIndex 1 5 0          | 1, {}, 3        | ! 7: table index is nil
		SetIndex 1 2 0          | 1, {}, 0/0      | ! 7: table index is NaN
		SetIndex 1 2 0          | 1, 'ab', 3      | ! 7: attempt to index a string value
		SetField 1 0 2; GetField 3 1 0 | 1, {}, 3 | = 1 table: 6 3 3 nil nil
		SetField 1 0 5; GetField 3 1 0 | 1, {x = 1}, 3, 4 | = 1 table: 6 3 nil nil nil
		SetField 0 0 1          | 5, 2            | ! 7: attempt to index a number value
		SetField 0 0 1          | 'ab', 2         | ! 7: attempt to index a string value
		SetField 5 0 1          | 'ab', 2         | ! 7: attempt to index a nil value
		SetItem 1 1 0; SetItem 1 2 2; Len 3 1 | 1, {}, 3 | = 1 table: 6 3 2 nil nil
		SetItem 1 70000 0; GetIndex 3 1 2 | 1, {}, 70000 | = 1 table: 6 70000 1 nil nil
		SetItem 0 1 0           | false           | ! 7: attempt to index a boolean value
		SetItem 0 1 0           | type            | ! 7: attempt to index a function value
		Dots 1 0; SetList 0 1; Len 1 0 | {}, 2, 3, 4, 5, 6, 7, 8 | = table: 6 3 3 4 5 nil
		Dots 1 0; SetList 0 3; Len 1 0; SetItem 0 1 1; SetItem 0 2 1; Len 1 0 | {}, 2, 3, 4, 5, 6, 7, 8 | = table: 6 5 3 4 5 nil
		Dots 3 0; SetList 0 1; Len 1 0 | {}, 2, 3, 4, 5, 6, 7, 8 | = table: 6 5 3 4 5 nil
		Dots 1 0; SetList 0 1; Len 1 0 | {}, 2, 3 | = table: 6 0 3 nil nil nil
		Dots 1 0; SetList 0 1   | 1, 2, 3, 4, 5, 6 | ! 7: attempt to index a number value
		Dots 1 0; SetList 0 1   | nil, 2, 3       | ! 7: attempt to index a nil value
		Dots 1 0; SetList 0 1   | 'a', 2, 3       | ! 7: attempt to index a string value
		Len 0 1                 | 1, 'abc'        | = 3 abc nil nil nil nil
		Len 1 1                 | 1, {4, 5}       | = 1 2 nil nil nil nil
		Len 0 1                 | 1, 5            | ! 7: attempt to get length of a number value
	`)
	const meta = "local m = {} local function g(n) return setmetatable({}, {__index = m, __newindex = m}) end m.x = 5"
	instructionRows(t, meta, `
		GetField 0 1 0          | 1, g()          | = 5 table: 7 nil nil nil nil
		Self 0 1 0              | 1, g()          | = 5 table: 7 nil nil nil nil
		SetIndex 1 2 0; GetField 3 1 0 | 1, g(), 'x' | = 1 table: 7 x 1 nil nil
		SetField 1 0 2; GetField 3 1 0 | 1, g(), 3 | = 1 table: 7 3 3 nil nil
		SetItem 1 1 2; GetIndex 3 1 0 | 1, g(), 3 | = 1 table: 7 3 3 nil nil
		Dots 2 0; SetList 1 1; GetIndex 3 1 0 | 1, g(), 3, 4, 5, 6 | = 1 table: 7 3 6 5 nil
	`)
	// Raw setting takes no notice of __newindex, setting by SetIndex does.
	const failing = "local function g() return setmetatable({}, {__newindex = function() error('new', 0) end}) end"
	instructionRows(t, failing, `
		SetField 1 0 2; SetItem 1 1 2; Dots 2 0; SetList 1 2 | 1, g(), 3, 4, 5, 6 | = 1 table: 6 3 4 5 nil
		SetIndex 1 2 0          | 1, g(), 3       | ! new
	`)
}

// What metatables' functions give is written behind their call; nothing else is.
func TestExecInstructionsThatCall(t *testing.T) {
	t.Parallel()
	const ahead = `local m = {} local function e(name, a, b) write(name, ":", type(a), type(b), " ") return "r", "s" end
		for _, name in next, {"index", "newindex", "add", "sub", "mul", "div", "mod", "idiv", "pow", "band", "bor", "bxor", "shl", "shr", "unm", "bnot", "concat", "eq", "lt", "le", "len", "call"} do
		m["__" .. name] = function(a, b) return e(name, a, b) end end local o, p = setmetatable({}, m), setmetatable({}, m)`
	instructionRows(t, ahead, `
		GetIndex 0 1 2          | 1, o, 3         | index:tablenumber  = r table: 8 3 nil nil nil
		GetField 0 1 0          | 1, o, 3         | index:tablestring  = r table: 8 3 nil nil nil
		Self 0 1 0              | 1, o, 3         | index:tablestring  = r table: 8 3 nil nil nil
		Self 3 1 0              | 1, o, 3, 4, 5   | index:tablestring  = 1 table: 8 3 r table: 8 nil
		SetIndex 1 2 0          | 1, o, 3         | newindex:tablenumber  = 1 table: 8 3 nil nil nil
		Add 0 1 2               | 1, o, 3         | add:tablenumber  = r table: 8 3 nil nil nil
		Sub 0 2 1               | 1, o, 3         | sub:numbertable  = r table: 8 3 nil nil nil
		Mul 1 1 1               | 1, o, 3         | mul:tabletable  = 1 r 3 nil nil nil
		Div 0 1 2; Mod 0 1 2; Idiv 0 1 2; Pow 0 1 2 | 1, o, 3 | div:tablenumber mod:tablenumber idiv:tablenumber pow:tablenumber  = r table: 8 3 nil nil nil
		And 0 1 2; Or 0 1 2; Xor 0 1 2; Shl 0 1 2; Shr 0 1 2 | 1, o, 3 | band:tablenumber bor:tablenumber bxor:tablenumber shl:tablenumber shr:tablenumber  = r table: 8 3 nil nil nil
		Neg 0 1; BitNot 3 1     | 1, o, 3         | unm:tabletable bnot:tabletable  = r table: 8 3 r nil nil
		Concat 0 1 2            | 1, o, 3         | concat:tablenumber  = r table: 8 3 nil nil nil
		Concat 0 2 1            | 1, o, 'x'       | concat:stringtable  = r table: 8 x nil nil nil
		Eq 0 1 2                | 1, o, p         | eq:tabletable  = true table: 8 table: 9 nil nil nil
		Eq 0 1 1                | 1, o, p         | = true table: 8 table: 9 nil nil nil
		Lt 0 1 2                | 1, o, 3         | lt:tablenumber  = true table: 8 3 nil nil nil
		Le 0 2 1                | 1, o, 3         | le:numbertable  = true table: 8 3 nil nil nil
		Len 0 1                 | 1, o, 3         | len:tablenil  = r table: 8 3 nil nil nil
		Call 1 2 1              | 1, o, 3, 4      | call:tablenumber  = 1 table: 8 3 4 nil nil
		Call 1 2 2              | 1, o, 3, 4      | call:tablenumber  = 1 r 3 4 nil nil
		Call 1 3 3              | 1, o, 3, 4      | call:tablenumber  = 1 r s 4 nil nil
		Each 0 1                | o, 2, 3, 4, 5   | call:tablenumber  = table: 8 2 3 r 5 nil
		Each 0 3                | o, 2, 3, 4, 5   | call:tablenumber  = table: 8 2 3 r s nil
	`)
	const none = "local o = setmetatable({}, {__index = function() end, __eq = function() end, __lt = function() return nil end, __le = function() return false end, __len = function() end, __add = function() end}) local p = setmetatable({}, getmetatable(o))"
	instructionRows(t, none, `
		GetField 0 1 0; Add 2 1 1; Len 3 1 | 1, o, 3, 4, 5 | = nil table: 6 nil nil 5 nil
		Eq 0 1 2; Lt 3 1 2; Le 4 1 2 | 1, o, p, 4, 5 | = false table: 6 table: 8 false false nil
	`)
}

func TestExecOperations(t *testing.T) {
	t.Parallel()
	instructionRows(t, "", `
		Add 0 1 2; Sub 3 1 2; Mul 4 1 2; Div 5 1 2 | 0, 7, 2 | = 9 7 2 5 14 3.5
		Mod 0 1 2; Idiv 3 1 2; Pow 4 1 2 | 0, 7, 2 | = 1 7 2 3 49.0 nil
		And 0 1 2; Or 3 1 2; Xor 4 1 2; Shl 5 1 2 | 0, 7, 2 | = 2 7 2 7 5 28
		Shr 0 1 2; Neg 3 1; BitNot 4 1 | 0, 7, 2 | = 1 7 2 -7 -8 nil
		Add 0 1 2               | 0, 7, 'x'       | ! 7: attempt to do arithmetic on a string value
		Add 0 1 2               | 0, nil, {}      | ! 7: attempt to do arithmetic on a nil value
		Neg 0 1                 | 0, type         | ! 7: attempt to do arithmetic on a function value
		BitNot 0 1              | 0, 1.5          | ! 7: number has no integer representation
		Idiv 0 1 2              | 0, 1, 0         | ! 7: attempt to divide by zero
		Concat 0 1 2            | 0, 7, 2         | = 72 7 2 nil nil nil
		Concat 0 1 2            | 0, 'a', 2.0     | = a2.0 a 2.0 nil nil nil
		Concat 0 1 2            | 0, 'a', nil     | ! 7: attempt to concatenate a nil value
		Concat 0 1 2            | 0, true, {}     | ! 7: attempt to concatenate a boolean value
		Eq 0 1 2; Eq 3 1 4      | 0, 1, 1.0, 0, '1' | = true 1 1.0 false 1 nil
		Eq 0 5 1; Eq 3 1 2      | 0, nil, false   | = true nil false false nil nil
		Lt 0 1 2; Le 3 1 2; Lt 4 2 1; Le 5 2 1 | 0, 1, 2.5 | = true 1 2.5 true false false
		Lt 0 1 2; Le 3 1 2      | 0, 'a', 'b'     | = true a b true nil nil
		Lt 0 1 2; Le 3 1 2      | 0, 0/0, 1       | = false nan 1 false nil nil
		Lt 0 1 2                | 0, 1, '2'       | ! 7: attempt to compare number with string
		Le 0 1 2                | 0, {}, {}       | ! 7: attempt to compare two table values
	`)
}

func TestExecCalls(t *testing.T) {
	t.Parallel()
	const ahead = "local function two(...) write(select('#', ...), ' ') return 'a', 'b' end local none = function() end local many = function() return 1, 2, 3, 4, 5, 6, 7, 8, 9 end local t = setmetatable({}, {__call = two})"
	instructionRows(t, ahead, `
		Call 0 1 1              | two, 2, 3, 4, 5 | 0  = function: 23 2 3 4 5 nil
		Call 0 1 2              | two, 2, 3, 4, 5 | 0  = a 2 3 4 5 nil
		Call 0 3 3              | two, 2, 3, 4, 5 | 2  = a b 3 4 5 nil
		Call 0 6 5              | two, 2, 3, 4, 5 | 5  = a b nil nil 5 nil
		Call 0 2 7              | many, 2, 3, 4, 5 | = 1 2 3 4 5 6
		Call 0 2 7              | none, 2, 3, 4, 5 | = nil nil nil nil nil nil
		Call 0 2 3              | none, 2, 3, 4, 5 | = nil nil 3 4 5 nil
		Call 3 1 1              | 1, 2, 3, many, 5 | = 1 2 3 function: 25 5 nil
		Call 3 1 4              | 1, 2, 3, many, 5 | = 1 2 3 1 2 3
		Call 0 2 2              | type, {}, 3, 4, 5 | = table table: 8 3 4 5 nil
		Call 0 3 2              | t, 2, 3, 4, 5   | 3  = a 2 3 4 5 nil
		Dots 1 0; Call 0 0 2    | two, 2, 3, 4, 5, 6, 7, 8 | 3  = a 2 3 4 5 nil
		Dots 3 0; Call 0 0 2    | two, 2, 3, 4, 5, 6, 7, 8 | 5  = a 2 3 4 5 nil
		Dots 1 0; Call 0 0 2    | two, 2, 3, 4, 5 | 0  = a 2 3 4 5 nil
		Call 1 1 0; Call 0 0 2  | two, many, 3, 4, 5 | 9  = a function: 25 3 4 5 nil
		Call 3 1 0; Call 0 0 2  | two, 2, 3, many, 5 | 11  = a 2 3 function: 25 5 nil
		Call 1 1 0; Call 0 0 0; Return 0 0 | two, many, 3, 4, 5 | 9  = a b
		Call 2 1 0; Return 0 0  | 1, 2, many      | = 1 2 1 2 3 4 5 6 7 8 9
		Call 2 1 0; Return 2 0  | 1, 2, many      | = 1 2 3 4 5 6 7 8 9
		Call 2 1 0; Return 1 0  | 1, 2, none      | = 2
		Call 1 1 0; SetList 0 1; Len 1 0 | {}, many | = table: 8 9 nil nil nil nil
		Call 3 1 0; SetList 0 1; Len 1 0 | {}, 2, 3, many | = table: 8 11 3 function: 25 nil nil
		Call 0 1 1              | 5               | ! 7: attempt to call a number value
		Call 5 1 1              | 5               | ! 7: attempt to call a nil value
		Call 0 1 1              | {}              | ! 7: attempt to call a table value
		Each 0 1                | two, 2, 3, 4, 5 | 2  = function: 23 2 3 a 5 nil
		Each 0 2                | two, 2, 3, 4, 5 | 2  = function: 23 2 3 a b nil
		Each 0 3                | two, 2, 3, 4, 5 | 2  = function: 23 2 3 a b nil
		Each 0 3                | none, 2, 3, 4, 5 | = function: 24 2 3 nil nil nil
		Each 0 1                | next, {7}, nil, 4, 5 | = builtin: next table: 8 nil 1 5 nil
		Each 0 1                | nil, 2, 3       | ! 7: attempt to call a nil value
	`)
	// As many arguments as may be, and one more.
	const much = "local function n(_, ...) return 1 + select('#', ...) end local t = setmetatable({}, {__call = n})"
	instructionRows(t, much, `
		Dots 1 0; Call 0 0 2    | n, 2, 3, 4, 5, table.unpack({}, 1, 995) | = 995 2 3 4 5 nil
		Dots 5 0; Call 0 0 2    | n, 2, 3, 4, 5, table.unpack({}, 1, 995) | = 999 2 3 4 5 nil
		Dots 5 0; Call 0 0 2    | t, 2, 3, 4, 5, table.unpack({}, 1, 995) | = 1000 2 3 4 5 nil
		Dots 5 0; Tail 0 0      | n, 2, 3, 4, 5, table.unpack({}, 1, 995) | = 999
		Dots 5 0; Tail 0 0      | t, 2, 3, 4, 5, table.unpack({}, 1, 995) | = 1000
	`)
	const more = "local function n(_, ...) return 1 + select('#', ...) end local u = setmetatable({}, {__call = n}) local t = setmetatable({}, {__call = u})"
	instructionRows(t, more, `
		Dots 5 0; Call 0 0 2    | t, 2, 3, 4, 5, table.unpack({}, 1, 995) | ! 7: too many values
		Dots 5 0; Tail 0 0      | t, 2, 3, 4, 5, table.unpack({}, 1, 995) | ! 7: too many values
		Dots 4 0; Tail 0 0      | t, 2, 3, 4, 5, table.unpack({}, 1, 995) | = 1000
	`)
}

func TestExecTails(t *testing.T) {
	t.Parallel()
	const ahead = "local function n(...) return select('#', ...), ... end local t = setmetatable({}, {__call = n}) local w = function(...) write('in ') error('e', 2) end"
	instructionRows(t, ahead, `
		Tail 0 1                | n, 2, 3         | = 0
		Tail 0 3                | n, 2, 3, 4      | = 2 2 3
		Tail 0 6                | n, 2, 3, 4, 5   | = 5 2 3 4 5 nil
		Dots 1 0; Tail 0 0      | n, 2, 3, 4, 5, 6, 7 | = 2 6 7
		Dots 3 0; Tail 0 0      | n, 2, 3, 4, 5, 6, 7 | = 4 2 3 6 7
		Tail 0 2                | type, 2         | = number
		Tail 0 2                | t, 2            | = 2 table: 6 2
		Tail 0 1                | type            | ! 7: bad argument #1 to 'type' (value expected)
		Tail 0 1                | 5               | ! 7: attempt to call a number value
		Tail 0 1                | {}              | ! 7: attempt to call a table value
		Tail 0 2                | pcall, type, 3  | = false bad argument #1 to 'type' (value expected)
		Tail 0 3                | pcall, type, 3  | = true number
		Tail 0 2                | error, 'e'      | ! 7: e
		Tail 0 1                | w               | in  ! e
	`)
	// A tail call takes no frame, however often; a primitive's is one of this frame.
	limits := paced(1)
	limits.Frames = 2
	for _, r := range [][2]string{
		{"local function f(n) if n == 0 then return 'deep' end return f(n - 1) end return (f(1000))", "= deep"},
		{"local function f(n) if n == 0 then return 'deep' end return setmetatable({}, {__call = function(_, k) return f(k) end})(n - 1) end return (f(1000))", "= deep"},
		{"local function f() return pcall(f) end return (f())", "! 1: stack overflow"},
		{"local function f() return (type(1)) end return (f())", "= number"},
	} {
		if o := checkMachine(t, r[0], compiled(t, r[0]), limits); toldShort(o) != r[1] {
			t.Errorf("%s: %s", r[0], outcomeText(o))
		}
	}
}
