package tests

import "testing"

// Chapter 7, the rules of lists and statements: whole functions, instruction by instruction, each with its line.

func TestCompileListsInLocals(t *testing.T) {
	checkChunk(t, "local a, b, c", `
		regs 3 line 1 dots
		1: Tick; Nil 0 3; Return 0 1`)
	checkChunk(t, "local a, b, c = 1", `
		regs 3 line 1 dots
		1: Tick; Int 0 1; Nil 1 2; Return 0 1`)
	checkChunk(t, "local a, b = 1, 2", `
		regs 2 line 1 dots
		1: Tick; Int 0 1; Int 1 2; Return 0 1`)
	checkChunk(t, "local a, b = 1, 2, 3, 4", `
		regs 4 line 1 dots
		1: Tick; Int 0 1; Int 1 2; Int 2 3; Int 3 4; Return 0 1`)
	checkChunk(t, "local a, b, c = f()", `
		regs 3 line 1 dots consts "f"
		1: Tick; GetGlobal 0 0; Call 0 1 4; Return 0 1`)
	checkChunk(t, "local a, b, c = 1, f()", `
		regs 3 line 1 dots consts "f"
		1: Tick; Int 0 1; GetGlobal 1 0; Call 1 1 3; Return 0 1`)
	checkChunk(t, "local a, b, c = 1, 2, f()", `
		regs 3 line 1 dots consts "f"
		1: Tick; Int 0 1; Int 1 2; GetGlobal 2 0; Call 2 1 2; Return 0 1`)
	checkChunk(t, "local a, b = 1, 2, f()", `
		regs 3 line 1 dots consts "f"
		1: Tick; Int 0 1; Int 1 2; GetGlobal 2 0; Call 2 1 2; Return 0 1`)
	checkChunk(t, "local a, b = f(), 1", `
		regs 2 line 1 dots consts "f"
		1: Tick; GetGlobal 0 0; Call 0 1 2; Int 1 1; Return 0 1`)
	checkChunk(t, "local a, b = f(), ...", `
		regs 2 line 1 dots consts "f"
		1: Tick; GetGlobal 0 0; Call 0 1 2; Dots 1 2; Return 0 1`)
	checkChunk(t, "local a, b, c = ...", `
		regs 3 line 1 dots
		1: Tick; Dots 0 4; Return 0 1`)
	checkChunk(t, "local a = ...", `
		regs 1 line 1 dots
		1: Tick; Dots 0 2; Return 0 1`)
	checkChunk(t, "local a = ..., ...", `
		regs 2 line 1 dots
		1: Tick; Dots 0 2; Dots 1 2; Return 0 1`)
	checkChunk(t, "local a, b = 1, ...", `
		regs 2 line 1 dots
		1: Tick; Int 0 1; Dots 1 2; Return 0 1`)
	checkChunk(t, "local a, b, c = o:m(1)", `
		regs 3 line 1 dots consts "o" "m"
		1: Tick; GetGlobal 0 0; Self 0 0 1; Int 2 1; Call 0 3 4; Return 0 1`)
	checkChunk(t, "local a, b = (f())", `
		regs 2 line 1 dots consts "f"
		1: Tick; GetGlobal 0 0; Call 0 1 2; Nil 1 1; Return 0 1`)
	checkChunk(t, "local a, b = (...)", `
		regs 2 line 1 dots
		1: Tick; Dots 0 2; Nil 1 1; Return 0 1`)
	checkChunk(t, "local a\nlocal\nb,\nc,\nd\n=\na", `
		regs 4 line 1 dots
		1: Tick; Nil 0 1
		2: Tick
		7: Move 1 0
		2: Nil 2 2
		1: Return 0 1`)
	checkChunk(t, "local a\nlocal\nb,\nc,\nd\n=\n1,\nf()", `
		regs 4 line 1 dots consts "f"
		1: Tick; Nil 0 1
		2: Tick
		7: Int 1 1
		8: GetGlobal 2 0; Call 2 1 3
		1: Return 0 1`)
}

func TestCompileListsInAssignments(t *testing.T) {
	checkChunk(t, "a, b, c = 1", `
		regs 3 line 1 dots consts "a" "b" "c"
		1: Tick; Int 0 1; Nil 1 2; SetGlobal 0 0; SetGlobal 1 1; SetGlobal 2 2; Return 0 1`)
	checkChunk(t, "a, b = 1, 2", `
		regs 2 line 1 dots consts "a" "b"
		1: Tick; Int 0 1; Int 1 2; SetGlobal 0 0; SetGlobal 1 1; Return 0 1`)
	checkChunk(t, "a = 1, 2, f()", `
		regs 3 line 1 dots consts "f" "a"
		1: Tick; Int 0 1; Int 1 2; GetGlobal 2 0; Call 2 1 2; SetGlobal 0 1; Return 0 1`)
	checkChunk(t, "a, b, c = f()", `
		regs 3 line 1 dots consts "f" "a" "b" "c"
		1: Tick; GetGlobal 0 0; Call 0 1 4; SetGlobal 0 1; SetGlobal 1 2; SetGlobal 2 3; Return 0 1`)
	checkChunk(t, "a, b, c = 1, ...", `
		regs 3 line 1 dots consts "a" "b" "c"
		1: Tick; Int 0 1; Dots 1 3; SetGlobal 0 0; SetGlobal 1 1; SetGlobal 2 2; Return 0 1`)
	checkChunk(t, "a, b = 1, f()", `
		regs 2 line 1 dots consts "f" "a" "b"
		1: Tick; Int 0 1; GetGlobal 1 0; Call 1 1 2; SetGlobal 0 1; SetGlobal 1 2; Return 0 1`)
	checkChunk(t, "a, b = 1, 2, ...", `
		regs 3 line 1 dots consts "a" "b"
		1: Tick; Int 0 1; Int 1 2; Dots 2 2; SetGlobal 0 0; SetGlobal 1 1; Return 0 1`)
	checkChunk(t, "a, b, c = o:m()", `
		regs 3 line 1 dots consts "o" "m" "a" "b" "c"
		1: Tick; GetGlobal 0 0; Self 0 0 1; Call 0 2 4; SetGlobal 0 2; SetGlobal 1 3; SetGlobal 2 4; Return 0 1`)
	checkChunk(t, "a,\nb\n=\nc", `
		regs 2 line 1 dots consts "c" "a" "b"
		1: Tick
		4: GetGlobal 0 0
		1: Nil 1 1; SetGlobal 0 1
		2: SetGlobal 1 2
		1: Return 0 1`)
}

func TestCompileAssignments(t *testing.T) {
	checkChunk(t, "a = 1", `
		regs 1 line 1 dots consts "a"
		1: Tick; Int 0 1; SetGlobal 0 0; Return 0 1`)
	checkChunk(t, "local a a = 1", `
		regs 2 line 1 dots
		1: Tick; Nil 0 1; Tick; Int 1 1; Move 0 1; Return 0 1`)
	checkChunk(t, "local a local function f() a = 1 end", `
		regs 1 line 1 ups R0
		1: Tick; Int 0 1; SetUp 0 0; Return 0 1
		regs 2 line 1 dots
		1: Tick; Nil 0 1; Tick; Closure 1 0; Return 0 1`)
	checkChunk(t, "a.b = 1", `
		regs 3 line 1 dots consts "a" "b"
		1: Tick; GetGlobal 0 0; Const 1 1; Int 2 1; SetIndex 0 1 2; Return 0 1`)
	checkChunk(t, "a[b] = c", `
		regs 3 line 1 dots consts "a" "b" "c"
		1: Tick; GetGlobal 0 0; GetGlobal 1 1; GetGlobal 2 2; SetIndex 0 1 2; Return 0 1`)
	checkChunk(t, "a[1] = f()", `
		regs 3 line 1 dots consts "a" "f"
		1: Tick; GetGlobal 0 0; Int 1 1; GetGlobal 2 1; Call 2 1 2; SetIndex 0 1 2; Return 0 1`)
	checkChunk(t, "a.b.c[d].e = 1", `
		regs 3 line 1 dots consts "a" "b" "c" "d" "e"
		1: Tick; GetGlobal 0 0; GetField 0 0 1; GetField 0 0 2; GetGlobal 1 3; GetIndex 0 0 1; Const 1 4; Int 2 1; SetIndex 0 1 2; Return 0 1`)
	checkChunk(t, "local x a.b, x, c[d], y = 1, 2, 3, 4", `
		regs 9 line 1 dots consts "a" "b" "c" "d" "y"
		1: Tick; Nil 0 1; Tick; GetGlobal 1 0; Const 2 1; GetGlobal 3 2; GetGlobal 4 3; Int 5 1; Int 6 2; Int 7 3; Int 8 4; SetIndex 1 2 5; Move 0 6; SetIndex 3 4 7; SetGlobal 8 4; Return 0 1`)
	checkChunk(t, "local u local function f(p) u, p, g, u.x, p[g], g.y = 1 end", `
		regs 13 line 1 params 1 ups R0 consts "x" "g" "y"
		1: Tick; GetUp 1 0; Const 2 0; Move 3 0; GetGlobal 4 1; GetGlobal 5 1; Const 6 2; Int 7 1; Nil 8 5; SetUp 7 0; Move 0 8; SetGlobal 9 1; SetIndex 1 2 10; SetIndex 3 4 11; SetIndex 5 6 12; Return 0 1
		regs 2 line 1 dots
		1: Tick; Nil 0 1; Tick; Closure 1 0; Return 0 1`)
	checkChunk(t, "local x x, x.y, x = x, x", `
		regs 6 line 1 dots consts "y"
		1: Tick; Nil 0 1; Tick; Move 1 0; Const 2 0; Move 3 0; Move 4 0; Nil 5 1; Move 0 3; SetIndex 1 2 4; Move 0 5; Return 0 1`)
	checkChunk(t, "a\n.\nb\n,\nc\n,\nd\n[\ne\n]\n=\nf\n,\ng", `
		regs 7 line 1 dots consts "a" "b" "d" "e" "f" "g" "c"
		1: Tick; GetGlobal 0 0
		3: Const 1 1
		7: GetGlobal 2 2
		9: GetGlobal 3 3
		12: GetGlobal 4 4
		14: GetGlobal 5 5
		1: Nil 6 1
		2: SetIndex 0 1 4
		5: SetGlobal 5 6
		8: SetIndex 2 3 6
		1: Return 0 1`)
	checkChunk(t, "local a, b a, b = b, a", `
		regs 4 line 1 dots
		1: Tick; Nil 0 2; Tick; Move 2 1; Move 3 0; Move 0 2; Move 1 3; Return 0 1`)
	checkChunk(t, "t[f()], t.x = f()", `
		regs 6 line 1 dots consts "t" "f" "x"
		1: Tick; GetGlobal 0 0; GetGlobal 1 1; Call 1 1 2; GetGlobal 2 0; Const 3 2; GetGlobal 4 1; Call 4 1 3; SetIndex 0 1 4; SetIndex 2 3 5; Return 0 1`)
}

func TestCompileBlocks(t *testing.T) {
	checkChunk(t, "do end", `
		regs 1 line 1 dots
		1: Tick; Return 0 1`)
	checkChunk(t, "do local a do local b end local c end local d", `
		regs 2 line 1 dots
		1: Tick; Tick; Nil 0 1; Tick; Tick; Nil 1 1; Tick; Nil 1 1; Tick; Nil 0 1; Return 0 1`)
	checkChunk(t, "do local a f(function() return a end) end", `
		regs 1 line 1 ups R0
		1: Tick; GetUp 0 0; Return 0 2; Return 0 1
		regs 3 line 1 dots consts "f"
		1: Tick; Tick; Nil 0 1; Tick; GetGlobal 1 0; Closure 2 0; Call 1 2 1; Close 0; Return 0 1`)
	checkChunk(t, "do local a, b, c f(function() return c, b end) end", `
		regs 2 line 1 ups R2 R1
		1: Tick; GetUp 0 0; GetUp 1 1; Return 0 3; Return 0 1
		regs 5 line 1 dots consts "f"
		1: Tick; Tick; Nil 0 3; Tick; GetGlobal 3 0; Closure 4 0; Call 3 2 1; Close 1; Return 0 1`)
	checkChunk(t, "do local a <close> = f() end", `
		regs 1 line 1 dots consts "f"
		1: Tick; Tick; GetGlobal 0 0; Call 0 1 2; Tbc 0; Close 0; Return 0 1`)
	checkChunk(t, "do local a <const> = 1 local b <close>, c = a end", `
		regs 3 line 1 dots
		1: Tick; Tick; Int 0 1; Tick; Move 1 0; Nil 2 1; Tbc 1; Close 1; Return 0 1`)
	checkChunk(t, "do local a\nf(function() return a end)\nend\ng()", `
		regs 1 line 2 ups R0
		2: Tick; GetUp 0 0; Return 0 2; Return 0 1
		regs 3 line 1 dots consts "f" "g"
		1: Tick; Tick; Nil 0 1
		2: Tick; GetGlobal 1 0; Closure 2 0; Call 1 2 1
		1: Close 0
		4: Tick; GetGlobal 0 1; Call 0 1 1
		1: Return 0 1`)
	checkChunk(t, "do\nlocal a <close> = b\ndo local c f(function() return c end) end\nend", `
		regs 1 line 3 ups R1
		3: Tick; GetUp 0 0; Return 0 2; Return 0 1
		regs 4 line 1 dots consts "b" "f"
		1: Tick
		2: Tick; GetGlobal 0 0; Tbc 0
		3: Tick; Tick; Nil 1 1; Tick; GetGlobal 2 1; Closure 3 0; Call 2 2 1; Close 1
		2: Close 0
		1: Return 0 1`)
	checkChunk(t, "local a do local b f(function() return a end) end", `
		regs 1 line 1 ups R0
		1: Tick; GetUp 0 0; Return 0 2; Return 0 1
		regs 4 line 1 dots consts "f"
		1: Tick; Nil 0 1; Tick; Tick; Nil 1 1; Tick; GetGlobal 2 0; Closure 3 0; Call 2 2 1; Return 0 1`)
	checkChunk(t, "local a f(function() return a end)", `
		regs 1 line 1 ups R0
		1: Tick; GetUp 0 0; Return 0 2; Return 0 1
		regs 3 line 1 dots consts "f"
		1: Tick; Nil 0 1; Tick; GetGlobal 1 0; Closure 2 0; Call 1 2 1; Return 0 1`)
	checkChunk(t, "local function f(a) g(function() return a end) end", `
		regs 1 line 1 ups R0
		1: Tick; GetUp 0 0; Return 0 2; Return 0 1
		regs 3 line 1 params 1 consts "g"
		1: Tick; GetGlobal 1 0; Closure 2 0; Call 1 2 1; Return 0 1
		regs 1 line 1 dots
		1: Tick; Closure 0 1; Return 0 1`)
	checkChunk(t, "do local function f() return f end end", `
		regs 1 line 1 ups R0
		1: Tick; GetUp 0 0; Return 0 2; Return 0 1
		regs 1 line 1 dots
		1: Tick; Tick; Closure 0 0; Close 0; Return 0 1`)
	checkChunk(t, "do local a do f(function() return a end) end end", `
		regs 1 line 1 ups R0
		1: Tick; GetUp 0 0; Return 0 2; Return 0 1
		regs 3 line 1 dots consts "f"
		1: Tick; Tick; Nil 0 1; Tick; Tick; GetGlobal 1 0; Closure 2 0; Call 1 2 1; Close 0; Return 0 1`)
}

func TestCompileWhile(t *testing.T) {
	checkChunk(t, "while a do end", `
		regs 1 line 1 dots consts "a"
		1: Tick; GetGlobal 0 0; JumpNot 0 4; Jump 0; Return 0 1`)
	checkChunk(t, "local x while x do f() end", `
		regs 2 line 1 dots consts "f"
		1: Tick; Nil 0 1; Tick; Move 1 0; JumpNot 1 9; Tick; GetGlobal 1 0; Call 1 1 1; Jump 2; Return 0 1`)
	checkChunk(t, "while a do local b f(function() return b end) end", `
		regs 1 line 1 ups R0
		1: Tick; GetUp 0 0; Return 0 2; Return 0 1
		regs 3 line 1 dots consts "a" "f"
		1: Tick; GetGlobal 0 0; JumpNot 0 11; Tick; Nil 0 1; Tick; GetGlobal 1 1; Closure 2 0; Call 1 2 1; Close 0; Jump 0; Return 0 1`)
	checkChunk(t, "while a do break end", `
		regs 1 line 1 dots consts "a"
		1: Tick; GetGlobal 0 0; JumpNot 0 6; Tick; Jump 6; Jump 0; Return 0 1`)
	checkChunk(t, "while a do local b f(function() return b end) if c then break end end", `
		regs 1 line 1 ups R0
		1: Tick; GetUp 0 0; Return 0 2; Return 0 1
		regs 3 line 1 dots consts "a" "f" "c"
		1: Tick; GetGlobal 0 0; JumpNot 0 17; Tick; Nil 0 1; Tick; GetGlobal 1 1; Closure 2 0; Call 1 2 1; Tick; GetGlobal 1 2; JumpNot 1 15; Tick; Close 0; Jump 17; Close 0; Jump 0; Return 0 1`)
	checkChunk(t, "while a do while b do break end break end", `
		regs 1 line 1 dots consts "a" "b"
		1: Tick; GetGlobal 0 0; JumpNot 0 12; Tick; GetGlobal 0 1; JumpNot 0 9; Tick; Jump 9; Jump 3; Tick; Jump 12; Jump 0; Return 0 1`)
	checkChunk(t, "\nwhile\na\ndo\nlocal b <close> = c\nbreak\nend", `
		regs 1 line 2 dots consts "a" "c"
		2: Tick
		3: GetGlobal 0 0
		2: JumpNot 0 11
		5: Tick; GetGlobal 0 1; Tbc 0
		6: Tick; Close 0; Jump 11
		5: Close 0
		2: Jump 0; Return 0 1`)
	checkChunk(t, "while a and b do f() end", `
		regs 1 line 1 dots consts "a" "b" "f"
		1: Tick; GetGlobal 0 0; JumpNot 0 4; GetGlobal 0 1; JumpNot 0 9; Tick; GetGlobal 0 2; Call 0 1 1; Jump 0; Return 0 1`)
}

func TestCompileRepeat(t *testing.T) {
	checkChunk(t, "repeat until a", `
		regs 1 line 1 dots consts "a"
		1: Tick; GetGlobal 0 0; JumpNot 0 0; Return 0 1`)
	checkChunk(t, "repeat local a until a", `
		regs 2 line 1 dots
		1: Tick; Tick; Nil 0 1; Move 1 0; JumpNot 1 0; Return 0 1`)
	checkChunk(t, "repeat local a, b f(a) until b == a", `
		regs 4 line 1 dots consts "f"
		1: Tick; Tick; Nil 0 2; Tick; GetGlobal 2 0; Move 3 0; Call 2 2 1; Move 2 1; Move 3 0; Eq 2 2 3; JumpNot 2 0; Return 0 1`)
	checkChunk(t, "repeat local a f(function() return a end) until a", `
		regs 1 line 1 ups R0
		1: Tick; GetUp 0 0; Return 0 2; Return 0 1
		regs 3 line 1 dots consts "f"
		1: Tick; Tick; Nil 0 1; Tick; GetGlobal 1 0; Closure 2 0; Call 1 2 1; Move 1 0; JumpIf 1 11; Close 0; Jump 0; Close 0; Return 0 1`)
	checkChunk(t, "repeat local a until f(function() return a end)", `
		regs 1 line 1 ups R0
		1: Tick; GetUp 0 0; Return 0 2; Return 0 1
		regs 3 line 1 dots consts "f"
		1: Tick; Tick; Nil 0 1; GetGlobal 1 0; Closure 2 0; Call 1 2 2; JumpIf 1 9; Close 0; Jump 0; Close 0; Return 0 1`)
	checkChunk(t, "local x repeat local a, b <close> = f() until x", `
		regs 4 line 1 dots consts "f"
		1: Tick; Nil 0 1; Tick; Tick; GetGlobal 1 0; Call 1 1 3; Tbc 2; Move 3 0; JumpIf 3 11; Close 2; Jump 2; Close 2; Return 0 1`)
	checkChunk(t, "repeat break until a", `
		regs 1 line 1 dots consts "a"
		1: Tick; Tick; Jump 5; GetGlobal 0 0; JumpNot 0 0; Return 0 1`)
	checkChunk(t, "repeat local a f(function() return a end) if b then break end until a", `
		regs 1 line 1 ups R0
		1: Tick; GetUp 0 0; Return 0 2; Return 0 1
		regs 3 line 1 dots consts "f" "b"
		1: Tick; Tick; Nil 0 1; Tick; GetGlobal 1 0; Closure 2 0; Call 1 2 1; Tick; GetGlobal 1 1; JumpNot 1 13; Tick; Close 0; Jump 18; Move 1 0; JumpIf 1 17; Close 0; Jump 0; Close 0; Return 0 1`)
	checkChunk(t, "repeat\nlocal a\nf(function() return a end)\nuntil\na\ng()", `
		regs 1 line 3 ups R0
		3: Tick; GetUp 0 0; Return 0 2; Return 0 1
		regs 3 line 1 dots consts "f" "g"
		1: Tick
		2: Tick; Nil 0 1
		3: Tick; GetGlobal 1 0; Closure 2 0; Call 1 2 1
		5: Move 1 0
		1: JumpIf 1 11; Close 0; Jump 0; Close 0
		6: Tick; GetGlobal 0 1; Call 0 1 1
		1: Return 0 1`)
	checkChunk(t, "repeat do local a f(function() return a end) end until b", `
		regs 1 line 1 ups R0
		1: Tick; GetUp 0 0; Return 0 2; Return 0 1
		regs 3 line 1 dots consts "f" "b"
		1: Tick; Tick; Tick; Nil 0 1; Tick; GetGlobal 1 0; Closure 2 0; Call 1 2 1; Close 0; GetGlobal 0 1; JumpNot 0 0; Return 0 1`)
	checkChunk(t, "repeat local function f() return f end until f()", `
		regs 1 line 1 ups R0
		1: Tick; GetUp 0 0; Return 0 2; Return 0 1
		regs 2 line 1 dots
		1: Tick; Tick; Closure 0 0; Move 1 0; Call 1 1 2; JumpIf 1 8; Close 0; Jump 0; Close 0; Return 0 1`)
}

func TestCompileIf(t *testing.T) {
	checkChunk(t, "if a then end", `
		regs 1 line 1 dots consts "a"
		1: Tick; GetGlobal 0 0; JumpNot 0 3; Return 0 1`)
	checkChunk(t, "if a then f() end", `
		regs 1 line 1 dots consts "a" "f"
		1: Tick; GetGlobal 0 0; JumpNot 0 6; Tick; GetGlobal 0 1; Call 0 1 1; Return 0 1`)
	checkChunk(t, "if a then f() else g() end", `
		regs 1 line 1 dots consts "a" "f" "g"
		1: Tick; GetGlobal 0 0; JumpNot 0 7; Tick; GetGlobal 0 1; Call 0 1 1; Jump 10; Tick; GetGlobal 0 2; Call 0 1 1; Return 0 1`)
	checkChunk(t, "if a then f() elseif b then g() end", `
		regs 1 line 1 dots consts "a" "f" "b" "g"
		1: Tick; GetGlobal 0 0; JumpNot 0 7; Tick; GetGlobal 0 1; Call 0 1 1; Jump 12; GetGlobal 0 2; JumpNot 0 12; Tick; GetGlobal 0 3; Call 0 1 1; Return 0 1`)
	checkChunk(t, "if a then f() elseif b then g() elseif c then h() else i() end", `
		regs 1 line 1 dots consts "a" "f" "b" "g" "c" "h" "i"
		1: Tick; GetGlobal 0 0; JumpNot 0 7; Tick; GetGlobal 0 1; Call 0 1 1; Jump 22; GetGlobal 0 2; JumpNot 0 13; Tick; GetGlobal 0 3; Call 0 1 1; Jump 22; GetGlobal 0 4; JumpNot 0 19; Tick; GetGlobal 0 5; Call 0 1 1; Jump 22; Tick; GetGlobal 0 6; Call 0 1 1; Return 0 1`)
	checkChunk(t, "if a then else end", `
		regs 1 line 1 dots consts "a"
		1: Tick; GetGlobal 0 0; JumpNot 0 4; Jump 4; Return 0 1`)
	checkChunk(t, "local x if x then local y f(function() return y end) else local z <close> = x end", `
		regs 1 line 1 ups R1
		1: Tick; GetUp 0 0; Return 0 2; Return 0 1
		regs 4 line 1 dots consts "f"
		1: Tick; Nil 0 1; Tick; Move 1 0; JumpNot 1 13; Tick; Nil 1 1; Tick; GetGlobal 2 0; Closure 3 0; Call 2 2 1; Close 1; Jump 17; Tick; Move 1 0; Tbc 1; Close 1; Return 0 1`)
	checkChunk(t, "if\na\nthen\nf()\nelseif\nb\nthen\ng()\nelse\nh()\nend", `
		regs 1 line 1 dots consts "a" "f" "b" "g" "h"
		1: Tick
		2: GetGlobal 0 0
		1: JumpNot 0 7
		4: Tick; GetGlobal 0 1; Call 0 1 1
		1: Jump 16
		6: GetGlobal 0 2
		1: JumpNot 0 13
		8: Tick; GetGlobal 0 3; Call 0 1 1
		1: Jump 16
		10: Tick; GetGlobal 0 4; Call 0 1 1
		1: Return 0 1`)
	checkChunk(t, "if a and b then f() end", `
		regs 1 line 1 dots consts "a" "b" "f"
		1: Tick; GetGlobal 0 0; JumpNot 0 4; GetGlobal 0 1; JumpNot 0 8; Tick; GetGlobal 0 2; Call 0 1 1; Return 0 1`)
}

func TestCompileFor(t *testing.T) {
	checkChunk(t, "for i = 1, 2 do end", `
		regs 4 line 1 dots
		1: Tick; Int 0 1; Int 1 2; Int 2 1; ForPrep 0 7; Tick; ForLoop 0 5; Return 0 1`)
	checkChunk(t, "for i = 1, 2, 3 do f(i) end", `
		regs 6 line 1 dots consts "f"
		1: Tick; Int 0 1; Int 1 2; Int 2 3; ForPrep 0 11; Tick; Tick; GetGlobal 4 0; Move 5 3; Call 4 2 1; ForLoop 0 5; Return 0 1`)
	checkChunk(t, "for i = a, b do end", `
		regs 4 line 1 dots consts "a" "b"
		1: Tick; GetGlobal 0 0; GetGlobal 1 1; Int 2 1; ForPrep 0 7; Tick; ForLoop 0 5; Return 0 1`)
	checkChunk(t, "local x, y for i = x, y, x do local z = i end local w", `
		regs 7 line 1 dots
		1: Tick; Nil 0 2; Tick; Move 2 0; Move 3 1; Move 4 0; ForPrep 2 11; Tick; Tick; Move 6 5; ForLoop 2 7; Tick; Nil 2 1; Return 0 1`)
	checkChunk(t, "for i = 1, 2 do f(function() return i end) end", `
		regs 1 line 1 ups R3
		1: Tick; GetUp 0 0; Return 0 2; Return 0 1
		regs 6 line 1 dots consts "f"
		1: Tick; Int 0 1; Int 1 2; Int 2 1; ForPrep 0 12; Tick; Tick; GetGlobal 4 0; Closure 5 0; Call 4 2 1; Close 3; ForLoop 0 5; Return 0 1`)
	checkChunk(t, "for i = 1, 2 do local a <close> = i f(function() return i end) end", `
		regs 1 line 1 ups R3
		1: Tick; GetUp 0 0; Return 0 2; Return 0 1
		regs 7 line 1 dots consts "f"
		1: Tick; Int 0 1; Int 1 2; Int 2 1; ForPrep 0 16; Tick; Tick; Move 4 3; Tbc 4; Tick; GetGlobal 5 0; Closure 6 0; Call 5 2 1; Close 4; Close 3; ForLoop 0 5; Return 0 1`)
	checkChunk(t, "for i = 1, 2 do local a = i f(function() return a end) break end", `
		regs 1 line 1 ups R4
		1: Tick; GetUp 0 0; Return 0 2; Return 0 1
		regs 7 line 1 dots consts "f"
		1: Tick; Int 0 1; Int 1 2; Int 2 1; ForPrep 0 17; Tick; Tick; Move 4 3; Tick; GetGlobal 5 0; Closure 6 0; Call 5 2 1; Tick; Close 4; Jump 17; Close 4; ForLoop 0 5; Return 0 1`)
	checkChunk(t, "for i = 1, 2 do f(function() return i end) break end", `
		regs 1 line 1 ups R3
		1: Tick; GetUp 0 0; Return 0 2; Return 0 1
		regs 6 line 1 dots consts "f"
		1: Tick; Int 0 1; Int 1 2; Int 2 1; ForPrep 0 15; Tick; Tick; GetGlobal 4 0; Closure 5 0; Call 4 2 1; Tick; Close 3; Jump 15; Close 3; ForLoop 0 5; Return 0 1`)
	checkChunk(t, "for i = f(), g(), ... do end", `
		regs 4 line 1 dots consts "f" "g"
		1: Tick; GetGlobal 0 0; Call 0 1 2; GetGlobal 1 1; Call 1 1 2; Dots 2 2; ForPrep 0 9; Tick; ForLoop 0 7; Return 0 1`)
	checkChunk(t, "for\ni\n=\na,\nb\ndo\nf(i)\nend", `
		regs 6 line 1 dots consts "a" "b" "f"
		1: Tick
		4: GetGlobal 0 0
		5: GetGlobal 1 1
		1: Int 2 1; ForPrep 0 11; Tick
		7: Tick; GetGlobal 4 2; Move 5 3; Call 4 2 1
		1: ForLoop 0 5; Return 0 1`)
	checkChunk(t, "for\ni\n=\na,\nb,\nc\ndo\nf(function() return i end)\nend", `
		regs 1 line 8 ups R3
		8: Tick; GetUp 0 0; Return 0 2; Return 0 1
		regs 6 line 1 dots consts "a" "b" "c" "f"
		1: Tick
		4: GetGlobal 0 0
		5: GetGlobal 1 1
		6: GetGlobal 2 2
		1: ForPrep 0 12; Tick
		8: Tick; GetGlobal 4 3; Closure 5 0; Call 4 2 1
		1: Close 3; ForLoop 0 5; Return 0 1`)
	checkChunk(t, "for i = 1, 2 do for j = i, 3 do break end break end", `
		regs 8 line 1 dots
		1: Tick; Int 0 1; Int 1 2; Int 2 1; ForPrep 0 18; Tick; Tick; Move 4 3; Int 5 3; Int 6 1; ForPrep 4 15; Tick; Tick; Jump 15; ForLoop 4 11; Tick; Jump 18; ForLoop 0 5; Return 0 1`)
}

func TestCompileIn(t *testing.T) {
	checkChunk(t, "for k in f do end", `
		regs 6 line 1 dots consts "f"
		1: Tick; GetGlobal 0 0; Nil 1 2; Jump 5; Tick; Each 0 1; EachLoop 0 4; Return 0 1`)
	checkChunk(t, "for k, v in f, s, c do g(k, v) end", `
		regs 8 line 1 dots consts "f" "s" "c" "g"
		1: Tick; GetGlobal 0 0; GetGlobal 1 1; GetGlobal 2 2; Jump 11; Tick; Tick; GetGlobal 5 3; Move 6 3; Move 7 4; Call 5 3 1; Each 0 2; EachLoop 0 5; Return 0 1`)
	checkChunk(t, "for k in f() do end", `
		regs 6 line 1 dots consts "f"
		1: Tick; GetGlobal 0 0; Call 0 1 4; Jump 5; Tick; Each 0 1; EachLoop 0 4; Return 0 1`)
	checkChunk(t, "for k in f, s() do end", `
		regs 6 line 1 dots consts "f" "s"
		1: Tick; GetGlobal 0 0; GetGlobal 1 1; Call 1 1 3; Jump 6; Tick; Each 0 1; EachLoop 0 5; Return 0 1`)
	checkChunk(t, "for k in f, s, c() do end", `
		regs 6 line 1 dots consts "f" "s" "c"
		1: Tick; GetGlobal 0 0; GetGlobal 1 1; GetGlobal 2 2; Call 2 1 2; Jump 7; Tick; Each 0 1; EachLoop 0 6; Return 0 1`)
	checkChunk(t, "for k in f, s, c, d() do end", `
		regs 6 line 1 dots consts "f" "s" "c" "d"
		1: Tick; GetGlobal 0 0; GetGlobal 1 1; GetGlobal 2 2; GetGlobal 3 3; Call 3 1 2; Jump 8; Tick; Each 0 1; EachLoop 0 7; Return 0 1`)
	checkChunk(t, "for k in f, s, c, d, e do end", `
		regs 6 line 1 dots consts "f" "s" "c" "d" "e"
		1: Tick; GetGlobal 0 0; GetGlobal 1 1; GetGlobal 2 2; GetGlobal 3 3; GetGlobal 4 4; Jump 8; Tick; Each 0 1; EachLoop 0 7; Return 0 1`)
	checkChunk(t, "for k in ... do end", `
		regs 6 line 1 dots
		1: Tick; Dots 0 4; Jump 4; Tick; Each 0 1; EachLoop 0 3; Return 0 1`)
	checkChunk(t, "for a, b, c, d in f do end", `
		regs 7 line 1 dots consts "f"
		1: Tick; GetGlobal 0 0; Nil 1 2; Jump 5; Tick; Each 0 4; EachLoop 0 4; Return 0 1`)
	checkChunk(t, "for a, b, c in f do end", `
		regs 6 line 1 dots consts "f"
		1: Tick; GetGlobal 0 0; Nil 1 2; Jump 5; Tick; Each 0 3; EachLoop 0 4; Return 0 1`)
	checkChunk(t, "for k in f do g(function() return k end) end", `
		regs 1 line 1 ups R3
		1: Tick; GetUp 0 0; Return 0 2; Return 0 1
		regs 6 line 1 dots consts "f" "g"
		1: Tick; GetGlobal 0 0; Nil 1 2; Jump 10; Tick; Tick; GetGlobal 4 1; Closure 5 0; Call 4 2 1; Close 3; Each 0 1; EachLoop 0 4; Return 0 1`)
	checkChunk(t, "for k, v in f do local a g(function() return a, v end) break end", `
		regs 2 line 1 ups R5 R4
		1: Tick; GetUp 0 0; GetUp 1 1; Return 0 3; Return 0 1
		regs 8 line 1 dots consts "f" "g"
		1: Tick; GetGlobal 0 0; Nil 1 2; Jump 16; Tick; Tick; Nil 5 1; Tick; GetGlobal 6 1; Closure 7 0; Call 6 2 1; Tick; Close 4; Jump 18; Close 5; Close 4; Each 0 2; EachLoop 0 4; Return 0 1`)
	checkChunk(t, "local x for k in x do local y end local z", `
		regs 7 line 1 dots
		1: Tick; Nil 0 1; Tick; Move 1 0; Nil 2 2; Jump 9; Tick; Tick; Nil 5 1; Each 1 1; EachLoop 1 6; Tick; Nil 1 1; Return 0 1`)
	checkChunk(t, "for\nk\nin\nf\ndo\ng(function() return k end)\nend", `
		regs 1 line 6 ups R3
		6: Tick; GetUp 0 0; Return 0 2; Return 0 1
		regs 6 line 1 dots consts "f" "g"
		1: Tick
		4: GetGlobal 0 0
		1: Nil 1 2; Jump 10; Tick
		6: Tick; GetGlobal 4 1; Closure 5 0; Call 4 2 1
		1: Close 3; Each 0 1; EachLoop 0 4; Return 0 1`)
	checkChunk(t, "for k in o:m() do end", `
		regs 6 line 1 dots consts "o" "m"
		1: Tick; GetGlobal 0 0; Self 0 0 1; Call 0 2 4; Jump 6; Tick; Each 0 1; EachLoop 0 5; Return 0 1`)
}

func TestCompileClosing(t *testing.T) {
	checkChunk(t, "local a <close> = f()", `
		regs 1 line 1 dots consts "f"
		1: Tick; GetGlobal 0 0; Call 0 1 2; Tbc 0; Return 0 1`)
	checkChunk(t, "local a <close>", `
		regs 1 line 1 dots
		1: Tick; Nil 0 1; Tbc 0; Return 0 1`)
	checkChunk(t, "local a, b <close>, c = 1, 2", `
		regs 3 line 1 dots
		1: Tick; Int 0 1; Int 1 2; Nil 2 1; Tbc 1; Return 0 1`)
	checkChunk(t, "local\na,\nb\n<close>\n=\nf()", `
		regs 2 line 1 dots consts "f"
		1: Tick
		6: GetGlobal 0 0; Call 0 1 3
		3: Tbc 1
		1: Return 0 1`)
	checkChunk(t, "local a <const> = 1 return a", `
		regs 2 line 1 dots
		1: Tick; Int 0 1; Tick; Move 1 0; Return 1 2; Return 0 1`)
	checkChunk(t, "local a <const>, b <close> = f() return g()", `
		regs 3 line 1 dots consts "f" "g"
		1: Tick; GetGlobal 0 0; Call 0 1 3; Tbc 1; Tick; GetGlobal 2 1; Call 2 1 0; Return 2 0; Return 0 1`)
}

func TestCompileLocalFunctions(t *testing.T) {
	checkChunk(t, "local function f() end", `
		regs 1 line 1
		1: Return 0 1
		regs 1 line 1 dots
		1: Tick; Closure 0 0; Return 0 1`)
	checkChunk(t, "local function f() return f() end", `
		regs 1 line 1 ups R0
		1: Tick; GetUp 0 0; Tail 0 1; Return 0 1
		regs 1 line 1 dots
		1: Tick; Closure 0 0; Return 0 1`)
	checkChunk(t, "local a local function f(b) return a, b, f end", `
		regs 4 line 1 params 1 ups R0 R1
		1: Tick; GetUp 1 0; Move 2 0; GetUp 3 1; Return 1 4; Return 0 1
		regs 2 line 1 dots
		1: Tick; Nil 0 1; Tick; Closure 1 0; Return 0 1`)
	checkChunk(t, "\nlocal\nfunction\nf\n(\n)\nend", `
		regs 1 line 3
		3: Return 0 1
		regs 1 line 2 dots
		2: Tick
		3: Closure 0 0
		2: Return 0 1`)
}

func TestCompileReturns(t *testing.T) {
	checkChunk(t, "return", `
		regs 1 line 1 dots
		1: Tick; Return 0 1; Return 0 1`)
	checkChunk(t, "local a, b return", `
		regs 3 line 1 dots
		1: Tick; Nil 0 2; Tick; Return 2 1; Return 0 1`)
	checkChunk(t, "return 1", `
		regs 1 line 1 dots
		1: Tick; Int 0 1; Return 0 2; Return 0 1`)
	checkChunk(t, "return 1, 2", `
		regs 2 line 1 dots
		1: Tick; Int 0 1; Int 1 2; Return 0 3; Return 0 1`)
	checkChunk(t, "return f()", `
		regs 1 line 1 dots consts "f"
		1: Tick; GetGlobal 0 0; Tail 0 1; Return 0 1`)
	checkChunk(t, "return f(1, ...)", `
		regs 3 line 1 dots consts "f"
		1: Tick; GetGlobal 0 0; Int 1 1; Dots 2 0; Tail 0 0; Return 0 1`)
	checkChunk(t, "return o:m(1)", `
		regs 3 line 1 dots consts "o" "m"
		1: Tick; GetGlobal 0 0; Self 0 0 1; Int 2 1; Tail 0 3; Return 0 1`)
	checkChunk(t, "return o:m(g())", `
		regs 3 line 1 dots consts "o" "m" "g"
		1: Tick; GetGlobal 0 0; Self 0 0 1; GetGlobal 2 2; Call 2 1 0; Tail 0 0; Return 0 1`)
	checkChunk(t, "return (f())", `
		regs 1 line 1 dots consts "f"
		1: Tick; GetGlobal 0 0; Call 0 1 2; Return 0 2; Return 0 1`)
	checkChunk(t, "return f(), 1", `
		regs 2 line 1 dots consts "f"
		1: Tick; GetGlobal 0 0; Call 0 1 2; Int 1 1; Return 0 3; Return 0 1`)
	checkChunk(t, "return 1, f()", `
		regs 2 line 1 dots consts "f"
		1: Tick; Int 0 1; GetGlobal 1 0; Call 1 1 0; Return 0 0; Return 0 1`)
	checkChunk(t, "return f(), g()", `
		regs 2 line 1 dots consts "f" "g"
		1: Tick; GetGlobal 0 0; Call 0 1 2; GetGlobal 1 1; Call 1 1 0; Return 0 0; Return 0 1`)
	checkChunk(t, "return ...", `
		regs 1 line 1 dots
		1: Tick; Dots 0 0; Return 0 0; Return 0 1`)
	checkChunk(t, "return 1, ...", `
		regs 2 line 1 dots
		1: Tick; Int 0 1; Dots 1 0; Return 0 0; Return 0 1`)
	checkChunk(t, "return (...)", `
		regs 1 line 1 dots
		1: Tick; Dots 0 2; Return 0 2; Return 0 1`)
	checkChunk(t, "local a return a", `
		regs 2 line 1 dots
		1: Tick; Nil 0 1; Tick; Move 1 0; Return 1 2; Return 0 1`)
	checkChunk(t, "local a <close> = b return f()", `
		regs 2 line 1 dots consts "b" "f"
		1: Tick; GetGlobal 0 0; Tbc 0; Tick; GetGlobal 1 1; Call 1 1 0; Return 1 0; Return 0 1`)
	checkChunk(t, "local a <close> = b return o:m(...)", `
		regs 4 line 1 dots consts "b" "o" "m"
		1: Tick; GetGlobal 0 0; Tbc 0; Tick; GetGlobal 1 1; Self 1 1 2; Dots 3 0; Call 1 0 0; Return 1 0; Return 0 1`)
	checkChunk(t, "do local a <close> = b end return f()", `
		regs 1 line 1 dots consts "b" "f"
		1: Tick; Tick; GetGlobal 0 0; Tbc 0; Close 0; Tick; GetGlobal 0 1; Tail 0 1; Return 0 1`)
	checkChunk(t, "local a <close> = b return function() return f() end", `
		regs 1 line 1 consts "f"
		1: Tick; GetGlobal 0 0; Tail 0 1; Return 0 1
		regs 2 line 1 dots consts "b"
		1: Tick; GetGlobal 0 0; Tbc 0; Tick; Closure 1 0; Return 1 2; Return 0 1`)
	checkChunk(t, "local a <close> = b do local a return f() end", `
		regs 3 line 1 dots consts "b" "f"
		1: Tick; GetGlobal 0 0; Tbc 0; Tick; Tick; Nil 1 1; Tick; GetGlobal 2 1; Call 2 1 0; Return 2 0; Return 0 1`)
	checkChunk(t, "do local a <close> = b do return f() end end", `
		regs 2 line 1 dots consts "b" "f"
		1: Tick; Tick; GetGlobal 0 0; Tbc 0; Tick; Tick; GetGlobal 1 1; Call 1 1 0; Return 1 0; Close 0; Return 0 1`)
	checkChunk(t, "local a f(function() return a end) return f(a)", `
		regs 1 line 1 ups R0
		1: Tick; GetUp 0 0; Return 0 2; Return 0 1
		regs 3 line 1 dots consts "f"
		1: Tick; Nil 0 1; Tick; GetGlobal 1 0; Closure 2 0; Call 1 2 1; Tick; GetGlobal 1 0; Move 2 0; Tail 1 2; Return 0 1`)
	checkChunk(t, "do return f() end return g()", `
		regs 1 line 1 dots consts "f" "g"
		1: Tick; Tick; GetGlobal 0 0; Tail 0 1; Tick; GetGlobal 0 1; Tail 0 1; Return 0 1`)
	checkChunk(t, "\nreturn\nf\n(\na\n)", `
		regs 2 line 2 dots consts "f" "a"
		2: Tick
		3: GetGlobal 0 0
		5: GetGlobal 1 1
		4: Tail 0 2
		2: Return 0 1`)
	checkChunk(t, "\nreturn\na,\nf\n(\n)", `
		regs 2 line 2 dots consts "a" "f"
		2: Tick
		3: GetGlobal 0 0
		4: GetGlobal 1 1
		5: Call 1 1 0
		2: Return 0 0; Return 0 1`)
	checkChunk(t, "if a then return end return 1", `
		regs 1 line 1 dots consts "a"
		1: Tick; GetGlobal 0 0; JumpNot 0 5; Tick; Return 0 1; Tick; Int 0 1; Return 0 2; Return 0 1`)
}

func TestCompileBreaks(t *testing.T) {
	checkChunk(t, "for i = 1, 2 do do local a f(function() return a end) do local b break end end end", `
		regs 1 line 1 ups R4
		1: Tick; GetUp 0 0; Return 0 2; Return 0 1
		regs 7 line 1 dots consts "f"
		1: Tick; Int 0 1; Int 1 2; Int 2 1; ForPrep 0 21; Tick; Tick; Tick; Nil 4 1; Tick; GetGlobal 5 0; Closure 6 0; Call 5 2 1; Tick; Tick; Nil 5 1; Tick; Close 4; Jump 21; Close 4; ForLoop 0 5; Return 0 1`)
	checkChunk(t, "for i = 1, 2 do local a if a then break end f(function() return a end) end", `
		regs 1 line 1 ups R4
		1: Tick; GetUp 0 0; Return 0 2; Return 0 1
		regs 7 line 1 dots consts "f"
		1: Tick; Int 0 1; Int 1 2; Int 2 1; ForPrep 0 20; Tick; Tick; Nil 4 1; Tick; Move 5 4; JumpNot 5 14; Tick; Close 4; Jump 20; Tick; GetGlobal 5 0; Closure 6 0; Call 5 2 1; Close 4; ForLoop 0 5; Return 0 1`)
	checkChunk(t, "local a f(function() return a end) while a do break end", `
		regs 1 line 1 ups R0
		1: Tick; GetUp 0 0; Return 0 2; Return 0 1
		regs 3 line 1 dots consts "f"
		1: Tick; Nil 0 1; Tick; GetGlobal 1 0; Closure 2 0; Call 1 2 1; Tick; Move 1 0; JumpNot 1 12; Tick; Jump 12; Jump 6; Return 0 1`)
	checkChunk(t, "for i = 1, 2 do while i do local a <close> = i break end break end", `
		regs 5 line 1 dots
		1: Tick; Int 0 1; Int 1 2; Int 2 1; ForPrep 0 20; Tick; Tick; Move 4 3; JumpNot 4 17; Tick; Move 4 3; Tbc 4; Tick; Close 4; Jump 17; Close 4; Jump 6; Tick; Jump 20; ForLoop 0 5; Return 0 1`)
	checkChunk(t, "while a do local b do local c <close> = b repeat break until b break end end", `
		regs 3 line 1 dots consts "a"
		1: Tick; GetGlobal 0 0; JumpNot 0 19; Tick; Nil 0 1; Tick; Tick; Move 1 0; Tbc 1; Tick; Tick; Jump 14; Move 2 0; JumpNot 2 9; Tick; Close 1; Jump 19; Close 1; Jump 0; Return 0 1`)
}

func TestCompileGotos(t *testing.T) {
	checkChunk(t, "goto a ::a::", `
		regs 1 line 1 dots
		1: Tick; Jump 2; Return 0 1`)
	checkChunk(t, "::a:: goto a", `
		regs 1 line 1 dots
		1: Tick; Jump 0; Return 0 1`)
	checkChunk(t, "::a:: ::b:: goto b goto a", `
		regs 1 line 1 dots
		1: Tick; Jump 0; Tick; Jump 0; Return 0 1`)
	checkChunk(t, "do goto a end f() ::a:: g()", `
		regs 1 line 1 dots consts "f" "g"
		1: Tick; Tick; Jump 6; Tick; GetGlobal 0 0; Call 0 1 1; Tick; GetGlobal 0 1; Call 0 1 1; Return 0 1`)
	checkChunk(t, "::a:: do local b f(function() return b end) goto a end", `
		regs 1 line 1 ups R0
		1: Tick; GetUp 0 0; Return 0 2; Return 0 1
		regs 3 line 1 dots consts "f"
		1: Tick; Tick; Nil 0 1; Tick; GetGlobal 1 0; Closure 2 0; Call 1 2 1; Tick; Close 0; Jump 0; Close 0; Return 0 1`)
	checkChunk(t, "do local b f(function() return b end) goto a end ::a::", `
		regs 1 line 1 ups R0
		1: Tick; GetUp 0 0; Return 0 2; Return 0 1
		regs 3 line 1 dots consts "f"
		1: Tick; Tick; Nil 0 1; Tick; GetGlobal 1 0; Closure 2 0; Call 1 2 1; Tick; Close 0; Jump 11; Close 0; Return 0 1`)
	checkChunk(t, "do local b ::a:: local c f(function() return b, c end) goto a end", `
		regs 2 line 1 ups R0 R1
		1: Tick; GetUp 0 0; GetUp 1 1; Return 0 3; Return 0 1
		regs 4 line 1 dots consts "f"
		1: Tick; Tick; Nil 0 1; Tick; Nil 1 1; Tick; GetGlobal 2 0; Closure 3 0; Call 2 2 1; Tick; Close 1; Jump 3; Close 0; Return 0 1`)
	checkChunk(t, "do local b f(function() return b end) do local c <close> = b goto a end ::a:: end", `
		regs 1 line 1 ups R0
		1: Tick; GetUp 0 0; Return 0 2; Return 0 1
		regs 3 line 1 dots consts "f"
		1: Tick; Tick; Nil 0 1; Tick; GetGlobal 1 0; Closure 2 0; Call 1 2 1; Tick; Tick; Move 1 0; Tbc 1; Tick; Close 1; Jump 15; Close 1; Close 0; Return 0 1`)
	checkChunk(t, "while a do local b f(function() return b end) if c then goto next end g() ::next:: end", `
		regs 1 line 1 ups R0
		1: Tick; GetUp 0 0; Return 0 2; Return 0 1
		regs 3 line 1 dots consts "a" "f" "c" "g"
		1: Tick; GetGlobal 0 0; JumpNot 0 19; Tick; Nil 0 1; Tick; GetGlobal 1 1; Closure 2 0; Call 1 2 1; Tick; GetGlobal 1 2; JumpNot 1 14; Tick; Jump 17; Tick; GetGlobal 1 3; Call 1 1 1; Close 0; Jump 0; Return 0 1`)
	checkChunk(t, "do goto e local x f(function() return x end) ::e:: end", `
		regs 1 line 1 ups R0
		1: Tick; GetUp 0 0; Return 0 2; Return 0 1
		regs 3 line 1 dots consts "f"
		1: Tick; Tick; Jump 9; Tick; Nil 0 1; Tick; GetGlobal 1 0; Closure 2 0; Call 1 2 1; Close 0; Return 0 1`)
	checkChunk(t, "for i = 1, 2 do for j = 1, 2 do f(function() return i, j end) goto next end ::next:: end", `
		regs 2 line 1 ups R3 R7
		1: Tick; GetUp 0 0; GetUp 1 1; Return 0 3; Return 0 1
		regs 10 line 1 dots consts "f"
		1: Tick; Int 0 1; Int 1 2; Int 2 1; ForPrep 0 23; Tick; Tick; Int 4 1; Int 5 2; Int 6 1; ForPrep 4 21; Tick; Tick; GetGlobal 8 0; Closure 9 0; Call 8 2 1; Tick; Close 7; Jump 21; Close 7; ForLoop 4 11; Close 3; ForLoop 0 5; Return 0 1`)
	checkChunk(t, "for i = 1, 2 do f(function() return i end) goto out end ::out::", `
		regs 1 line 1 ups R3
		1: Tick; GetUp 0 0; Return 0 2; Return 0 1
		regs 6 line 1 dots consts "f"
		1: Tick; Int 0 1; Int 1 2; Int 2 1; ForPrep 0 15; Tick; Tick; GetGlobal 4 0; Closure 5 0; Call 4 2 1; Tick; Close 3; Jump 15; Close 3; ForLoop 0 5; Return 0 1`)
	checkChunk(t, "repeat local a f(function() return a end) goto b ::b:: until a", `
		regs 1 line 1 ups R0
		1: Tick; GetUp 0 0; Return 0 2; Return 0 1
		regs 3 line 1 dots consts "f"
		1: Tick; Tick; Nil 0 1; Tick; GetGlobal 1 0; Closure 2 0; Call 1 2 1; Tick; Jump 9; Move 1 0; JumpIf 1 13; Close 0; Jump 0; Close 0; Return 0 1`)
	checkChunk(t, "repeat do goto b end ::b:: local a until a", `
		regs 2 line 1 dots
		1: Tick; Tick; Tick; Jump 4; Tick; Nil 0 1; Move 1 0; JumpNot 1 0; Return 0 1`)
	checkChunk(t, "local x <close> = y ::a:: local z <close> = x goto a", `
		regs 2 line 1 dots consts "y"
		1: Tick; GetGlobal 0 0; Tbc 0; Tick; Move 1 0; Tbc 1; Tick; Close 1; Jump 3; Return 0 1`)
	checkChunk(t, "do local a ::l:: local b do local c f(function() return c end) goto l end f(function() return a, b end) end", `
		regs 1 line 1 ups R2
		1: Tick; GetUp 0 0; Return 0 2; Return 0 1
		regs 2 line 1 ups R0 R1
		1: Tick; GetUp 0 0; GetUp 1 1; Return 0 3; Return 0 1
		regs 5 line 1 dots consts "f"
		1: Tick; Tick; Nil 0 1; Tick; Nil 1 1; Tick; Tick; Nil 2 1; Tick; GetGlobal 3 0; Closure 4 0; Call 3 2 1; Tick; Close 1; Jump 3; Close 2; Tick; GetGlobal 2 0; Closure 3 1; Call 2 2 1; Close 0; Return 0 1`)
	checkChunk(t, "goto a goto a do goto a end ::a:: ::b:: f()", `
		regs 1 line 1 dots consts "f"
		1: Tick; Jump 7; Tick; Jump 7; Tick; Tick; Jump 7; Tick; GetGlobal 0 0; Call 0 1 1; Return 0 1`)
	checkChunk(t, "function f() goto a ::a:: end goto a ::a::", `
		regs 1 line 1
		1: Tick; Jump 2; Return 0 1
		regs 1 line 1 dots consts "f"
		1: Tick; Closure 0 0; SetGlobal 0 0; Tick; Jump 5; Return 0 1`)
	checkChunk(t, "\ngoto\na\n::a::\nf()", `
		regs 1 line 2 dots consts "f"
		2: Tick; Jump 2
		5: Tick; GetGlobal 0 0; Call 0 1 1
		2: Return 0 1`)
	checkChunk(t, "do local a <close> = b ::l:: if a then goto l end do goto m end ::m:: end", `
		regs 2 line 1 dots consts "b"
		1: Tick; Tick; GetGlobal 0 0; Tbc 0; Tick; Move 1 0; JumpNot 1 9; Tick; Jump 4; Tick; Tick; Jump 12; Close 0; Return 0 1`)
}

func TestCompileRegisters(t *testing.T) {
	checkChunk(t, "return f(1, 2, 3)", `
		regs 4 line 1 dots consts "f"
		1: Tick; GetGlobal 0 0; Int 1 1; Int 2 2; Int 3 3; Tail 0 4; Return 0 1`)
	checkChunk(t, "local a return", `
		regs 2 line 1 dots
		1: Tick; Nil 0 1; Tick; Return 1 1; Return 0 1`)
	checkChunk(t, "local a do return end", `
		regs 2 line 1 dots
		1: Tick; Nil 0 1; Tick; Tick; Return 1 1; Return 0 1`)
	checkChunk(t, "local a, b for i = 1, 2 do end", `
		regs 6 line 1 dots
		1: Tick; Nil 0 2; Tick; Int 2 1; Int 3 2; Int 4 1; ForPrep 2 9; Tick; ForLoop 2 7; Return 0 1`)
	checkChunk(t, "local a for k in a do end", `
		regs 7 line 1 dots
		1: Tick; Nil 0 1; Tick; Move 1 0; Nil 2 2; Jump 7; Tick; Each 1 1; EachLoop 1 6; Return 0 1`)
	checkChunk(t, "local a a:m()", `
		regs 3 line 1 dots consts "m"
		1: Tick; Nil 0 1; Tick; Move 1 0; Self 1 1 0; Call 1 2 1; Return 0 1`)
	checkChunk(t, "local a, b, c = f(1, 2, 3, 4)", `
		regs 5 line 1 dots consts "f"
		1: Tick; GetGlobal 0 0; Int 1 1; Int 2 2; Int 3 3; Int 4 4; Call 0 5 4; Return 0 1`)
	checkChunk(t, "local a, b, c = f()", `
		regs 3 line 1 dots consts "f"
		1: Tick; GetGlobal 0 0; Call 0 1 4; Return 0 1`)
	checkChunk(t, "local a, b, c = 1, f()", `
		regs 3 line 1 dots consts "f"
		1: Tick; Int 0 1; GetGlobal 1 0; Call 1 1 3; Return 0 1`)
	checkChunk(t, "local a = 1, 2, 3", `
		regs 3 line 1 dots
		1: Tick; Int 0 1; Int 1 2; Int 2 3; Return 0 1`)
	checkChunk(t, "a, b, c = 1", `
		regs 3 line 1 dots consts "a" "b" "c"
		1: Tick; Int 0 1; Nil 1 2; SetGlobal 0 0; SetGlobal 1 1; SetGlobal 2 2; Return 0 1`)
	checkChunk(t, "f(...)", `
		regs 2 line 1 dots consts "f"
		1: Tick; GetGlobal 0 0; Dots 1 0; Call 0 0 1; Return 0 1`)
	checkChunk(t, "local function f(a, b, c) end", `
		regs 3 line 1 params 3
		1: Return 0 1
		regs 1 line 1 dots
		1: Tick; Closure 0 0; Return 0 1`)
	checkChunk(t, "local function f(a, b, ...) return ... end", `
		regs 3 line 1 params 2 dots
		1: Tick; Dots 2 0; Return 2 0; Return 0 1
		regs 1 line 1 dots
		1: Tick; Closure 0 0; Return 0 1`)
	checkChunk(t, "local function f() end", `
		regs 1 line 1
		1: Return 0 1
		regs 1 line 1 dots
		1: Tick; Closure 0 0; Return 0 1`)
	checkChunk(t, "do local a, b, c end do local d end", `
		regs 3 line 1 dots
		1: Tick; Tick; Nil 0 3; Tick; Tick; Nil 0 1; Return 0 1`)
	checkChunk(t, "return {[a] = b}", `
		regs 3 line 1 dots consts "a" "b"
		1: Tick; Table 0; GetGlobal 1 0; GetGlobal 2 1; SetIndex 0 1 2; Return 0 2; Return 0 1`)
	checkChunk(t, "a[b], c[d] = e", `
		regs 6 line 1 dots consts "a" "b" "c" "d" "e"
		1: Tick; GetGlobal 0 0; GetGlobal 1 1; GetGlobal 2 2; GetGlobal 3 3; GetGlobal 4 4; Nil 5 1; SetIndex 0 1 4; SetIndex 2 3 5; Return 0 1`)
}
