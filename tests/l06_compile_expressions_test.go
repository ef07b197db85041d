package tests

import "testing"

// Chapter 7, the rules of expressions: whole functions, instruction by instruction, each with its line.

func TestCompileNothing(t *testing.T) {
	checkChunk(t, "", `
		regs 1 line 1 dots
		1: Return 0 1`)
	checkChunk(t, "-- nothing\n\n", `
		regs 1 line 3 dots
		3: Return 0 1`)
	checkChunk(t, ";;\n;", `
		regs 1 line 1 dots
		1: Return 0 1`)
}

func TestCompileSimples(t *testing.T) {
	checkChunk(t, "return nil, false, true", `
		regs 3 line 1 dots
		1: Tick; Nil 0 1; Bool 1 0; Bool 2 1; Return 0 4; Return 0 1`)
	checkChunk(t, "return\n1,\n'a',\n2.5,\n...,\nb", `
		regs 5 line 1 dots consts "a" 2.5 "b"
		1: Tick
		2: Int 0 1
		3: Const 1 0
		4: Const 2 1
		5: Dots 3 2
		6: GetGlobal 4 2
		1: Return 0 6; Return 0 1`)
	checkChunk(t, "return (...), ((a)), (f())", `
		regs 3 line 1 dots consts "a" "f"
		1: Tick; Dots 0 2; GetGlobal 1 0; GetGlobal 2 1; Call 2 1 2; Return 0 4; Return 0 1`)
	checkChunk(t, "return\n(\n(\nx\n)\n)", `
		regs 1 line 1 dots consts "x"
		1: Tick
		4: GetGlobal 0 0
		1: Return 0 2; Return 0 1`)
}

func TestCompileIntegers(t *testing.T) {
	checkChunk(t, "return 0, 32767, 32768", `
		regs 3 line 1 dots consts 32768
		1: Tick; Int 0 0; Int 1 32767; Const 2 0; Return 0 4; Return 0 1`)
	checkChunk(t, "return -1, -32768, -32769", `
		regs 3 line 1 dots consts -32769
		1: Tick; Int 0 -1; Int 1 -32768; Const 2 0; Return 0 4; Return 0 1`)
	checkChunk(t, "return 0x7fffffffffffffff, 0x8000000000000000, 0xffffffffffffffff", `
		regs 3 line 1 dots consts 9223372036854775807 -9223372036854775808
		1: Tick; Const 0 0; Const 1 1; Int 2 -1; Return 0 4; Return 0 1`)
}

func TestCompileNames(t *testing.T) {
	checkChunk(t, "local a return a, b", `
		regs 3 line 1 dots consts "b"
		1: Tick; Nil 0 1; Tick; Move 1 0; GetGlobal 2 0; Return 1 3; Return 0 1`)
	checkChunk(t, "local a local function f(b) return a, b, c end", `
		regs 4 line 1 params 1 ups R0 consts "c"
		1: Tick; GetUp 1 0; Move 2 0; GetGlobal 3 0; Return 1 4; Return 0 1
		regs 2 line 1 dots
		1: Tick; Nil 0 1; Tick; Closure 1 0; Return 0 1`)
	checkChunk(t, "local a function f() return function() return a end end", `
		regs 1 line 1 ups U0
		1: Tick; GetUp 0 0; Return 0 2; Return 0 1
		regs 1 line 1 ups R0
		1: Tick; Closure 0 0; Return 0 2; Return 0 1
		regs 2 line 1 dots consts "f"
		1: Tick; Nil 0 1; Tick; Closure 1 1; SetGlobal 1 0; Return 0 1`)
}

func TestCompileConstants(t *testing.T) {
	checkChunk(t, "return 70000, 70000.0, \"70000\", 70000, 70000.0, \"70000\"", `
		regs 6 line 1 dots consts 70000 70000.0 "70000"
		1: Tick; Const 0 0; Const 1 1; Const 2 2; Const 3 0; Const 4 1; Const 5 2; Return 0 7; Return 0 1`)
	checkChunk(t, "return a, \"a\", b.a, x[\"a\"], o:a(), {a = 1}", `
		regs 7 line 1 dots consts "a" "b" "x" "o"
		1: Tick; GetGlobal 0 0; Const 1 0; GetGlobal 2 1; GetField 2 2 0; GetGlobal 3 2; GetField 3 3 0; GetGlobal 4 3; Self 4 4 0; Call 4 2 2; Table 5; Int 6 1; SetField 5 0 6; Return 0 7; Return 0 1`)
	checkChunk(t, "return 0.5, -0.5, 1/2, 0.5 + 0", `
		regs 4 line 1 dots consts 0.5 -0.5
		1: Tick; Const 0 0; Const 1 1; Const 2 0; Const 3 0; Return 0 5; Return 0 1`)
	checkChunk(t, "x.y = z", `
		regs 3 line 1 dots consts "x" "y" "z"
		1: Tick; GetGlobal 0 0; Const 1 1; GetGlobal 2 2; SetIndex 0 1 2; Return 0 1`)
	checkChunk(t, "x = y", `
		regs 1 line 1 dots consts "y" "x"
		1: Tick; GetGlobal 0 0; SetGlobal 0 1; Return 0 1`)
	checkChunk(t, "return {a = b}, o:m(n), t[u], v.w", `
		regs 4 line 1 dots consts "b" "a" "o" "m" "n" "t" "u" "v" "w"
		1: Tick; Table 0; GetGlobal 1 0; SetField 0 1 1; GetGlobal 1 2; Self 1 1 3; GetGlobal 3 4; Call 1 3 2; GetGlobal 2 5; GetGlobal 3 6; GetIndex 2 2 3; GetGlobal 3 7; GetField 3 3 8; Return 0 5; Return 0 1`)
	checkChunk(t, "return 1.0, 65536 // 1, 65536, 65536.0, \"\"", `
		regs 5 line 1 dots consts 1.0 65536 65536.0 ""
		1: Tick; Const 0 0; Const 1 1; Const 2 1; Const 3 2; Const 4 3; Return 0 6; Return 0 1`)
	checkChunk(t, "local function f() return a, b end return b, a", `
		regs 2 line 1 consts "a" "b"
		1: Tick; GetGlobal 0 0; GetGlobal 1 1; Return 0 3; Return 0 1
		regs 3 line 1 dots consts "b" "a"
		1: Tick; Closure 0 0; Tick; GetGlobal 1 0; GetGlobal 2 1; Return 1 3; Return 0 1`)
}

func TestCompileIndexing(t *testing.T) {
	checkChunk(t, "return a.b", `
		regs 1 line 1 dots consts "a" "b"
		1: Tick; GetGlobal 0 0; GetField 0 0 1; Return 0 2; Return 0 1`)
	checkChunk(t, "return a[b]", `
		regs 2 line 1 dots consts "a" "b"
		1: Tick; GetGlobal 0 0; GetGlobal 1 1; GetIndex 0 0 1; Return 0 2; Return 0 1`)
	checkChunk(t, "return a\n.\nb\n[\n\"c\"\n]\n[\nd\n]", `
		regs 2 line 1 dots consts "a" "b" "c" "d"
		1: Tick; GetGlobal 0 0
		2: GetField 0 0 1
		4: GetField 0 0 2
		8: GetGlobal 1 3
		7: GetIndex 0 0 1
		1: Return 0 2; Return 0 1`)
	checkChunk(t, "return a[1][2.5]", `
		regs 2 line 1 dots consts "a" 2.5
		1: Tick; GetGlobal 0 0; Int 1 1; GetIndex 0 0 1; Const 1 1; GetIndex 0 0 1; Return 0 2; Return 0 1`)
	checkChunk(t, "return a[(\"b\")]", `
		regs 2 line 1 dots consts "a" "b"
		1: Tick; GetGlobal 0 0; Const 1 1; GetIndex 0 0 1; Return 0 2; Return 0 1`)
	checkChunk(t, "return a[b.c[d]]", `
		regs 3 line 1 dots consts "a" "b" "c" "d"
		1: Tick; GetGlobal 0 0; GetGlobal 1 1; GetField 1 1 2; GetGlobal 2 3; GetIndex 1 1 2; GetIndex 0 0 1; Return 0 2; Return 0 1`)
}

func TestCompileCalls(t *testing.T) {
	checkChunk(t, "f()", `
		regs 1 line 1 dots consts "f"
		1: Tick; GetGlobal 0 0; Call 0 1 1; Return 0 1`)
	checkChunk(t, "f(1, 2)", `
		regs 3 line 1 dots consts "f"
		1: Tick; GetGlobal 0 0; Int 1 1; Int 2 2; Call 0 3 1; Return 0 1`)
	checkChunk(t, "f(...)", `
		regs 2 line 1 dots consts "f"
		1: Tick; GetGlobal 0 0; Dots 1 0; Call 0 0 1; Return 0 1`)
	checkChunk(t, "f(1, ...)", `
		regs 3 line 1 dots consts "f"
		1: Tick; GetGlobal 0 0; Int 1 1; Dots 2 0; Call 0 0 1; Return 0 1`)
	checkChunk(t, "f(g())", `
		regs 2 line 1 dots consts "f" "g"
		1: Tick; GetGlobal 0 0; GetGlobal 1 1; Call 1 1 0; Call 0 0 1; Return 0 1`)
	checkChunk(t, "f(g(), h())", `
		regs 3 line 1 dots consts "f" "g" "h"
		1: Tick; GetGlobal 0 0; GetGlobal 1 1; Call 1 1 2; GetGlobal 2 2; Call 2 1 0; Call 0 0 1; Return 0 1`)
	checkChunk(t, "f((g()))", `
		regs 2 line 1 dots consts "f" "g"
		1: Tick; GetGlobal 0 0; GetGlobal 1 1; Call 1 1 2; Call 0 2 1; Return 0 1`)
	checkChunk(t, "f(g(...), (...))", `
		regs 3 line 1 dots consts "f" "g"
		1: Tick; GetGlobal 0 0; GetGlobal 1 1; Dots 2 0; Call 1 0 2; Dots 2 2; Call 0 3 1; Return 0 1`)
	checkChunk(t, "f(o:m())", `
		regs 3 line 1 dots consts "f" "o" "m"
		1: Tick; GetGlobal 0 0; GetGlobal 1 1; Self 1 1 2; Call 1 2 0; Call 0 0 1; Return 0 1`)
	checkChunk(t, "f{} f\"s\"", `
		regs 2 line 1 dots consts "f" "s"
		1: Tick; GetGlobal 0 0; Table 1; Call 0 2 1; Tick; GetGlobal 0 0; Const 1 1; Call 0 2 1; Return 0 1`)
	checkChunk(t, "f\n(\na,\nb\n)", `
		regs 3 line 1 dots consts "f" "a" "b"
		1: Tick; GetGlobal 0 0
		3: GetGlobal 1 1
		4: GetGlobal 2 2
		2: Call 0 3 1
		1: Return 0 1`)
	checkChunk(t, "f()()", `
		regs 1 line 1 dots consts "f"
		1: Tick; GetGlobal 0 0; Call 0 1 2; Call 0 1 1; Return 0 1`)
	checkChunk(t, "return f(), f()", `
		regs 2 line 1 dots consts "f"
		1: Tick; GetGlobal 0 0; Call 0 1 2; GetGlobal 1 0; Call 1 1 0; Return 0 0; Return 0 1`)
	checkChunk(t, "local a, b, c = f()", `
		regs 3 line 1 dots consts "f"
		1: Tick; GetGlobal 0 0; Call 0 1 4; Return 0 1`)
	checkChunk(t, "local x, y f(x, y)", `
		regs 5 line 1 dots consts "f"
		1: Tick; Nil 0 2; Tick; GetGlobal 2 0; Move 3 0; Move 4 1; Call 2 3 1; Return 0 1`)
}

func TestCompileMethods(t *testing.T) {
	checkChunk(t, "o:m()", `
		regs 2 line 1 dots consts "o" "m"
		1: Tick; GetGlobal 0 0; Self 0 0 1; Call 0 2 1; Return 0 1`)
	checkChunk(t, "o:m(1, 2)", `
		regs 4 line 1 dots consts "o" "m"
		1: Tick; GetGlobal 0 0; Self 0 0 1; Int 2 1; Int 3 2; Call 0 4 1; Return 0 1`)
	checkChunk(t, "o:m(...)", `
		regs 3 line 1 dots consts "o" "m"
		1: Tick; GetGlobal 0 0; Self 0 0 1; Dots 2 0; Call 0 0 1; Return 0 1`)
	checkChunk(t, "o:m(f())", `
		regs 3 line 1 dots consts "o" "m" "f"
		1: Tick; GetGlobal 0 0; Self 0 0 1; GetGlobal 2 2; Call 2 1 0; Call 0 0 1; Return 0 1`)
	checkChunk(t, "o:m(1, p:n())", `
		regs 5 line 1 dots consts "o" "m" "p" "n"
		1: Tick; GetGlobal 0 0; Self 0 0 1; Int 2 1; GetGlobal 3 2; Self 3 3 3; Call 3 2 0; Call 0 0 1; Return 0 1`)
	checkChunk(t, "o\n:\nm\n(\na\n)", `
		regs 3 line 1 dots consts "o" "m" "a"
		1: Tick; GetGlobal 0 0
		2: Self 0 0 1
		5: GetGlobal 2 2
		2: Call 0 3 1
		1: Return 0 1`)
	checkChunk(t, "local a, b = o:m()", `
		regs 2 line 1 dots consts "o" "m"
		1: Tick; GetGlobal 0 0; Self 0 0 1; Call 0 2 3; Return 0 1`)
	checkChunk(t, "return (o:m())", `
		regs 2 line 1 dots consts "o" "m"
		1: Tick; GetGlobal 0 0; Self 0 0 1; Call 0 2 2; Return 0 2; Return 0 1`)
	checkChunk(t, "o.p:m{}:n\"\"", `
		regs 3 line 1 dots consts "o" "p" "m" "n" ""
		1: Tick; GetGlobal 0 0; GetField 0 0 1; Self 0 0 2; Table 2; Call 0 3 2; Self 0 0 3; Const 2 4; Call 0 3 1; Return 0 1`)
}

func TestCompileTables(t *testing.T) {
	checkChunk(t, "return {}", `
		regs 1 line 1 dots
		1: Tick; Table 0; Return 0 2; Return 0 1`)
	checkChunk(t, "return {1, 2, 3}", `
		regs 2 line 1 dots
		1: Tick; Table 0; Int 1 1; SetItem 0 1 1; Int 1 2; SetItem 0 2 1; Int 1 3; SetItem 0 3 1; Return 0 2; Return 0 1`)
	checkChunk(t, "return {a = 1, [\"b\"] = 2, [c] = 3, [4] = 5}", `
		regs 3 line 1 dots consts "a" "b" "c"
		1: Tick; Table 0; Int 1 1; SetField 0 0 1; Int 1 2; SetField 0 1 1; GetGlobal 1 2; Int 2 3; SetIndex 0 1 2; Int 1 4; Int 2 5; SetIndex 0 1 2; Return 0 2; Return 0 1`)
	checkChunk(t, "return {1, a = 2, 3, [b] = 4, 5}", `
		regs 3 line 1 dots consts "a" "b"
		1: Tick; Table 0; Int 1 1; SetItem 0 1 1; Int 1 2; SetField 0 0 1; Int 1 3; SetItem 0 2 1; GetGlobal 1 1; Int 2 4; SetIndex 0 1 2; Int 1 5; SetItem 0 3 1; Return 0 2; Return 0 1`)
	checkChunk(t, "return {f()}", `
		regs 2 line 1 dots consts "f"
		1: Tick; Table 0; GetGlobal 1 0; Call 1 1 0; SetList 0 1; Return 0 2; Return 0 1`)
	checkChunk(t, "return {1, ...}", `
		regs 2 line 1 dots
		1: Tick; Table 0; Int 1 1; SetItem 0 1 1; Dots 1 0; SetList 0 2; Return 0 2; Return 0 1`)
	checkChunk(t, "return {f(), ...}", `
		regs 2 line 1 dots consts "f"
		1: Tick; Table 0; GetGlobal 1 0; Call 1 1 2; SetItem 0 1 1; Dots 1 0; SetList 0 2; Return 0 2; Return 0 1`)
	checkChunk(t, "return {..., f(), a = 1}", `
		regs 2 line 1 dots consts "f" "a"
		1: Tick; Table 0; Dots 1 2; SetItem 0 1 1; GetGlobal 1 0; Call 1 1 2; SetItem 0 2 1; Int 1 1; SetField 0 1 1; Return 0 2; Return 0 1`)
	checkChunk(t, "return {(f())}", `
		regs 2 line 1 dots consts "f"
		1: Tick; Table 0; GetGlobal 1 0; Call 1 1 2; SetItem 0 1 1; Return 0 2; Return 0 1`)
	checkChunk(t, "return {a = f()}", `
		regs 2 line 1 dots consts "f" "a"
		1: Tick; Table 0; GetGlobal 1 0; Call 1 1 2; SetField 0 1 1; Return 0 2; Return 0 1`)
	checkChunk(t, "return {[f()] = g()}", `
		regs 3 line 1 dots consts "f" "g"
		1: Tick; Table 0; GetGlobal 1 0; Call 1 1 2; GetGlobal 2 1; Call 2 1 2; SetIndex 0 1 2; Return 0 2; Return 0 1`)
	checkChunk(t, "return {1, a = 2, o:m()}", `
		regs 3 line 1 dots consts "a" "o" "m"
		1: Tick; Table 0; Int 1 1; SetItem 0 1 1; Int 1 2; SetField 0 0 1; GetGlobal 1 1; Self 1 1 2; Call 1 2 0; SetList 0 2; Return 0 2; Return 0 1`)
	checkChunk(t, "return {[(\"a\")] = 1}", `
		regs 3 line 1 dots consts "a"
		1: Tick; Table 0; Const 1 0; Int 2 1; SetIndex 0 1 2; Return 0 2; Return 0 1`)
	checkChunk(t, "return\n{\na\n=\n1,\n[\nb\n]\n=\nc,\nd\n+\ne,\nf\n(\n)\n}", `
		regs 3 line 1 dots consts "a" "b" "c" "d" "e" "f"
		1: Tick
		2: Table 0
		5: Int 1 1
		3: SetField 0 0 1
		7: GetGlobal 1 1
		10: GetGlobal 2 2
		6: SetIndex 0 1 2
		11: GetGlobal 1 3
		13: GetGlobal 2 4
		12: Add 1 1 2
		11: SetItem 0 1 1
		14: GetGlobal 1 5
		15: Call 1 1 0
		14: SetList 0 2
		1: Return 0 2; Return 0 1`)
	checkChunk(t, "return {{1, {2}}, {}}", `
		regs 4 line 1 dots
		1: Tick; Table 0; Table 1; Int 2 1; SetItem 1 1 2; Table 2; Int 3 2; SetItem 2 1 3; SetItem 1 2 2; SetItem 0 1 1; Table 1; SetItem 0 2 1; Return 0 2; Return 0 1`)
}

func TestCompileAndOr(t *testing.T) {
	checkChunk(t, "return a and b", `
		regs 1 line 1 dots consts "a" "b"
		1: Tick; GetGlobal 0 0; JumpNot 0 4; GetGlobal 0 1; Return 0 2; Return 0 1`)
	checkChunk(t, "return a or b", `
		regs 1 line 1 dots consts "a" "b"
		1: Tick; GetGlobal 0 0; JumpIf 0 4; GetGlobal 0 1; Return 0 2; Return 0 1`)
	checkChunk(t, "return a and b or c", `
		regs 1 line 1 dots consts "a" "b" "c"
		1: Tick; GetGlobal 0 0; JumpNot 0 4; GetGlobal 0 1; JumpIf 0 6; GetGlobal 0 2; Return 0 2; Return 0 1`)
	checkChunk(t, "return a or b and c", `
		regs 1 line 1 dots consts "a" "b" "c"
		1: Tick; GetGlobal 0 0; JumpIf 0 6; GetGlobal 0 1; JumpNot 0 6; GetGlobal 0 2; Return 0 2; Return 0 1`)
	checkChunk(t, "return a\nand\nb\nor\nc", `
		regs 1 line 1 dots consts "a" "b" "c"
		1: Tick; GetGlobal 0 0
		2: JumpNot 0 4
		3: GetGlobal 0 1
		4: JumpIf 0 6
		5: GetGlobal 0 2
		1: Return 0 2; Return 0 1`)
	checkChunk(t, "return f(a and b, c or d)", `
		regs 3 line 1 dots consts "f" "a" "b" "c" "d"
		1: Tick; GetGlobal 0 0; GetGlobal 1 1; JumpNot 1 5; GetGlobal 1 2; GetGlobal 2 3; JumpIf 2 8; GetGlobal 2 4; Tail 0 3; Return 0 1`)
	checkChunk(t, "return (a and b)[c or d]", `
		regs 2 line 1 dots consts "a" "b" "c" "d"
		1: Tick; GetGlobal 0 0; JumpNot 0 4; GetGlobal 0 1; GetGlobal 1 2; JumpIf 1 7; GetGlobal 1 3; GetIndex 0 0 1; Return 0 2; Return 0 1`)
	checkChunk(t, "local x = a and f(...) or ...", `
		regs 2 line 1 dots consts "a" "f"
		1: Tick; GetGlobal 0 0; JumpNot 0 6; GetGlobal 0 1; Dots 1 0; Call 0 0 2; JumpIf 0 8; Dots 0 2; Return 0 1`)
}

func TestCompileUnary(t *testing.T) {
	checkChunk(t, "return not a, -a, ~a, #a", `
		regs 4 line 1 dots consts "a"
		1: Tick; GetGlobal 0 0; Not 0 0; GetGlobal 1 0; Neg 1 1; GetGlobal 2 0; BitNot 2 2; GetGlobal 3 0; Len 3 3; Return 0 5; Return 0 1`)
	checkChunk(t, "return not not a, - -a", `
		regs 2 line 1 dots consts "a"
		1: Tick; GetGlobal 0 0; Not 0 0; Not 0 0; GetGlobal 1 0; Neg 1 1; Neg 1 1; Return 0 3; Return 0 1`)
	checkChunk(t, "return\n-\na", `
		regs 1 line 1 dots consts "a"
		1: Tick
		3: GetGlobal 0 0
		2: Neg 0 0
		1: Return 0 2; Return 0 1`)
}

func TestCompileBinary(t *testing.T) {
	checkChunk(t, "return a + b, a - b, a * b, a / b, a % b, a // b, a ^ b", `
		regs 8 line 1 dots consts "a" "b"
		1: Tick; GetGlobal 0 0; GetGlobal 1 1; Add 0 0 1; GetGlobal 1 0; GetGlobal 2 1; Sub 1 1 2; GetGlobal 2 0; GetGlobal 3 1; Mul 2 2 3; GetGlobal 3 0; GetGlobal 4 1; Div 3 3 4; GetGlobal 4 0; GetGlobal 5 1; Mod 4 4 5; GetGlobal 5 0; GetGlobal 6 1; Idiv 5 5 6; GetGlobal 6 0; GetGlobal 7 1; Pow 6 6 7; Return 0 8; Return 0 1`)
	checkChunk(t, "return a & b, a | b, a ~ b, a << b, a >> b", `
		regs 6 line 1 dots consts "a" "b"
		1: Tick; GetGlobal 0 0; GetGlobal 1 1; And 0 0 1; GetGlobal 1 0; GetGlobal 2 1; Or 1 1 2; GetGlobal 2 0; GetGlobal 3 1; Xor 2 2 3; GetGlobal 3 0; GetGlobal 4 1; Shl 3 3 4; GetGlobal 4 0; GetGlobal 5 1; Shr 4 4 5; Return 0 6; Return 0 1`)
	checkChunk(t, "return a .. b, a == b, a < b, a <= b", `
		regs 5 line 1 dots consts "a" "b"
		1: Tick; GetGlobal 0 0; GetGlobal 1 1; Concat 0 0 1; GetGlobal 1 0; GetGlobal 2 1; Eq 1 1 2; GetGlobal 2 0; GetGlobal 3 1; Lt 2 2 3; GetGlobal 3 0; GetGlobal 4 1; Le 3 3 4; Return 0 5; Return 0 1`)
	checkChunk(t, "return a ~= b, a > b, a >= b", `
		regs 4 line 1 dots consts "a" "b"
		1: Tick; GetGlobal 0 0; GetGlobal 1 1; Eq 0 0 1; Not 0 0; GetGlobal 1 0; GetGlobal 2 1; Lt 1 2 1; GetGlobal 2 0; GetGlobal 3 1; Le 2 3 2; Return 0 4; Return 0 1`)
	checkChunk(t, "return a + b * c", `
		regs 3 line 1 dots consts "a" "b" "c"
		1: Tick; GetGlobal 0 0; GetGlobal 1 1; GetGlobal 2 2; Mul 1 1 2; Add 0 0 1; Return 0 2; Return 0 1`)
	checkChunk(t, "return (a + b) * c", `
		regs 2 line 1 dots consts "a" "b" "c"
		1: Tick; GetGlobal 0 0; GetGlobal 1 1; Add 0 0 1; GetGlobal 1 2; Mul 0 0 1; Return 0 2; Return 0 1`)
	checkChunk(t, "return a .. b .. c", `
		regs 3 line 1 dots consts "a" "b" "c"
		1: Tick; GetGlobal 0 0; GetGlobal 1 1; GetGlobal 2 2; Concat 1 1 2; Concat 0 0 1; Return 0 2; Return 0 1`)
	checkChunk(t, "return\na\n~=\nb\n>\nc", `
		regs 2 line 1 dots consts "a" "b" "c"
		1: Tick
		2: GetGlobal 0 0
		4: GetGlobal 1 1
		3: Eq 0 0 1; Not 0 0
		6: GetGlobal 1 2
		5: Lt 0 1 0
		1: Return 0 2; Return 0 1`)
	checkChunk(t, "local x, y = 1, 2 return x + y", `
		regs 4 line 1 dots
		1: Tick; Int 0 1; Int 1 2; Tick; Move 2 0; Move 3 1; Add 2 2 3; Return 2 2; Return 0 1`)
}

func TestCompileFolded(t *testing.T) {
	checkChunk(t, "return 1 + 2, (3), -(4), not nil, not 1, 1 / 0, -0.0", `
		regs 7 line 1 dots consts 0.0
		1: Tick; Int 0 3; Int 1 3; Int 2 -4; Bool 3 1; Bool 4 0; Int 5 1; Int 6 0; Div 5 5 6; Const 6 0; Neg 6 6; Return 0 8; Return 0 1`)
	checkChunk(t, "return 200 * 200, 2 ^ 3, (70000)", `
		regs 3 line 1 dots consts 40000 8.0 70000
		1: Tick; Const 0 0; Const 1 1; Const 2 2; Return 0 4; Return 0 1`)
	checkChunk(t, "return a[1 + 1], {[2 * 3] = 4, [\"a\" .. \"b\"] = 5}", `
		regs 4 line 1 dots consts "a" "b"
		1: Tick; GetGlobal 0 0; Int 1 2; GetIndex 0 0 1; Table 1; Int 2 6; Int 3 4; SetIndex 1 2 3; Const 2 0; Const 3 1; Concat 2 2 3; Int 3 5; SetIndex 1 2 3; Return 0 3; Return 0 1`)
}

func TestCompileFunctions(t *testing.T) {
	checkChunk(t, "return function() end", `
		regs 1 line 1
		1: Return 0 1
		regs 1 line 1 dots
		1: Tick; Closure 0 0; Return 0 2; Return 0 1`)
	checkChunk(t, "return function(a, b, ...) return a, ... end", `
		regs 4 line 1 params 2 dots
		1: Tick; Move 2 0; Dots 3 0; Return 2 0; Return 0 1
		regs 1 line 1 dots
		1: Tick; Closure 0 0; Return 0 2; Return 0 1`)
	checkChunk(t, "f(function() return function() end end, function(a) end)", `
		regs 1 line 1
		1: Return 0 1
		regs 1 line 1
		1: Tick; Closure 0 0; Return 0 2; Return 0 1
		regs 1 line 1 params 1
		1: Return 0 1
		regs 3 line 1 dots consts "f"
		1: Tick; GetGlobal 0 0; Closure 1 1; Closure 2 2; Call 0 3 1; Return 0 1`)
	checkChunk(t, "local a\nlocal function f()\nlocal b\nreturn function()\nreturn a, b\nend\nend", `
		regs 2 line 4 ups U0 R0
		5: Tick; GetUp 0 0; GetUp 1 1; Return 0 3
		4: Return 0 1
		regs 2 line 2 ups R0
		3: Tick; Nil 0 1
		4: Tick; Closure 1 0; Return 1 2
		2: Return 0 1
		regs 2 line 1 dots
		1: Tick; Nil 0 1
		2: Tick; Closure 1 1
		1: Return 0 1`)
	checkChunk(t, "return\nfunction\n(\na\n)\nreturn\na\nend", `
		regs 2 line 2 params 1
		6: Tick
		7: Move 1 0
		6: Return 1 2
		2: Return 0 1
		regs 1 line 1 dots
		1: Tick
		2: Closure 0 0
		1: Return 0 2; Return 0 1`)
	checkChunk(t, "function f(a) return a end function t.a.b(c) end function t.o:m(d) return self, d end", `
		regs 2 line 1 params 1
		1: Tick; Move 1 0; Return 1 2; Return 0 1
		regs 1 line 1 params 1
		1: Return 0 1
		regs 4 line 1 params 2
		1: Tick; Move 2 0; Move 3 1; Return 2 3; Return 0 1
		regs 3 line 1 dots consts "f" "t" "a" "b" "o" "m"
		1: Tick; Closure 0 0; SetGlobal 0 0; Tick; GetGlobal 0 1; GetField 0 0 2; Const 1 3; Closure 2 1; SetIndex 0 1 2; Tick; GetGlobal 0 1; GetField 0 0 4; Const 1 5; Closure 2 2; SetIndex 0 1 2; Return 0 1`)
	checkChunk(t, "\n\nlocal function f() end", `
		regs 1 line 3
		3: Return 0 1
		regs 1 line 3 dots
		3: Tick; Closure 0 0; Return 0 1`)
}
