package tests

import (
	"fmt"
	"slices"
	"testing"

	"loop.example/g00002/impl"
)

// Chapter 15, behind the rounds: constants that nothing names, functions that no closures are made of.

func TestOptimizeConstants(t *testing.T) {
	t.Parallel()
	const head = "regs 4 line 7 dots consts"
	// None, some and all of them left out; where there are none.
	shortensTo(t, head+` "a" 70000 2.5
1: Const 0 0; Const 1 1; Const 2 2; Return 0 4`, head+` "a" 70000 2.5
1: Const 0 0; Const 1 1; Const 2 2; Return 0 4`)
	shortensTo(t, head+` "a" 70000 2.5 "b"
1: Const 0 1; Const 1 3; Return 0 3`, head+` 70000 "b"
1: Const 0 0; Const 1 1; Return 0 3`)
	shortensTo(t, head+` "a" 70000 2.5
1: Tick; Return 0 1`, head+`
1: Tick; Return 0 1`)
	shortensTo(t, head+`
1: Tick; Return 0 1`, head+`
1: Tick; Return 0 1`)
	// The first, the last, those between; one that is named again and again, and by another order.
	shortensTo(t, head+` 1 2 3 4 5
1: Const 0 4; Const 1 2; Const 2 4; Const 3 2; Return 0 5`, head+` 3 5
1: Const 0 1; Const 1 0; Const 2 1; Const 3 0; Return 0 5`)
	shortensTo(t, head+` 1 2 3
1: Const 0 0; Return 0 2`, head+` 1
1: Const 0 0; Return 0 2`)
	shortensTo(t, head+` 1 2 3
1: Const 0 2; Return 0 2`, head+` 3
1: Const 0 0; Return 0 2`)
	// The same one twice stays twice, if both are named.
	shortensTo(t, head+` 9 "x" 9 "x" "x"
1: Const 0 0; Const 1 2; Const 2 3; Return 0 4`, head+` 9 9 "x"
1: Const 0 0; Const 1 1; Const 2 2; Return 0 4`)
	// What is named only where nothing comes to, or by what does nothing, isn't named.
	shortensTo(t, head+` 1 2 3
1: Const 0 1; Return 0 2; Const 0 0; Return 0 2`, head+` 2
1: Const 0 0; Return 0 2`)
	shortensTo(t, head+` "a" "b" "c"
1: JumpIf 0 a; GetGlobal 0 2; Return 0 2; GetGlobal 0 0; a: SetGlobal 0 1; Return 0 1`, head+` "b" "c"
1: JumpIf 0 a; GetGlobal 0 1; Return 0 2; a: SetGlobal 0 0; Return 0 1`)
	// The empty string and numbers at their ends are constants as others.
	shortensTo(t, head+` "" -9223372036854775808 9223372036854775807 0 "0"
1: Const 0 0; Const 1 2; Const 2 3; Return 0 4`, head+` "" 9223372036854775807 0
1: Const 0 0; Const 1 1; Const 2 2; Return 0 4`)
}

// Each instruction that names a constant, brought to its new number; no other operand is.
func TestOptimizeOperands(t *testing.T) {
	t.Parallel()
	const consts = ` "z" "a" "y" "b"`
	for _, c := range [][2]string{
		{"Const 2 3", "Const 2 1"}, {"GetGlobal 2 3", "GetGlobal 2 1"}, {"SetGlobal 2 3", "SetGlobal 2 1"}, {"SetField 2 3 2", "SetField 2 1 2"},
		{"GetField 2 2 3", "GetField 2 2 1"}, {"Self 2 2 3", "Self 2 2 1"},
		{"SetField 3 3 3", "SetField 3 1 3"}, {"GetField 3 3 3", "GetField 3 3 1"}, {"Self 3 3 3", "Self 3 3 1"},
	} {
		shortensTo(t, "regs 5 line 1 dots consts"+consts+"\n1: Const 0 1; "+c[0]+"; Return 0 1", "regs 5 line 1 dots consts \"a\" \"b\"\n1: Const 0 0; "+c[1]+"; Return 0 1")
	}
	const others = `Tick; Move 2 3; Nil 2 3; Bool 1 1; Int 2 3; GetIndex 3 3 3; SetIndex 3 3 3; Table 3; SetItem 3 3 3; Concat 3 3 3; Eq 3 3 3; Lt 3 3 3; Le 3 3 3; Not 3 2; Len 3 2
Call 3 3 3; Dots 3 3; Dots 4 0; SetList 3 3; Close 3; Tbc 3; Each 3 3; Add 3 3 3; Pow 3 3 3; Shr 3 3 3; Neg 3 2; BitNot 3 2; Dots 4 0; Call 3 0 0; Return 3 0`
	const head = "regs 12 line 1 dots"
	shortensTo(t, head+" consts"+consts+"\n1: "+others, head+"\n1: "+others)
	shortensTo(t, head+" consts"+consts+"\n1: Const 0 1\n"+others, head+" consts \"a\"\n1: Const 0 0\n"+others)
	// In a function with upvalues; Tail and the loops' instructions too.
	const inner = "regs 12 line 3 params 2 ups R1 R0 R1 R2"
	const code = "3: GetUp 1 3; SetUp 1 3; JumpIf 0 a; ForPrep 3 a; b: Tick; ForLoop 3 b; c: Tick; EachLoop 3 c; a: Nil 0 1; Tail 3 3"
	const outer = "regs 3 line 1 dots\n1: Closure 2 0; Return 0 3"
	shortensTo(t, inner+" consts"+consts+"\n"+code+"\n"+outer, inner+"\n"+code+"\n"+outer)
}

// All else of a function is as it was, though nothing needs it any more.
func TestOptimizeKeepsTheRest(t *testing.T) {
	t.Parallel()
	shortensTo(t, `regs 250 line 2147483647 params 180 dots ups R249 U3 R0
9: Move 3 3; Return 0 1; Tick; Tick; Return 249 2
regs 250 line 0 params 1 ups R2 U5 R249 U0 U1 U2
8: a: Tick; Closure 4 0; Jump b; b: Jump a; Return 0 1
regs 250 line 12 params 3 ups R0 R9 R0 R0 R0 R249
8: Closure 4 1; Return 4 2
regs 250 line 0 dots
7: Return 0 1; Closure 0 2; Return 0 1`, `regs 250 line 0 dots
7: Return 0 1`)
	const kept = `regs 250 line 2147483647 params 180 dots ups R249 U3 R0
9: Return 0 1
regs 250 line 0 params 1 ups R2 R5 R249 R0 R1 R2
8: a: Tick; Closure 4 0; Jump a
regs 250 line 5 dots
7: Closure 0 1; Return 0 1`
	shortensTo(t, `regs 250 line 2147483647 params 180 dots ups R249 U3 R0
9: Move 3 3; Return 0 1; Tick; Tick; Return 249 2
regs 250 line 0 params 1 ups R2 R5 R249 R0 R1 R2
8: a: Tick; Closure 4 0; Jump b; b: Jump a; Return 0 1
regs 250 line 5 dots
7: Closure 0 1; Return 0 1; Nil 0 200; Return 0 201`, kept)
	shortensTo(t, kept, kept)
}

// closures is a chunk of functions, of which each makes closures of those told, the dead ones where nothing comes to.
func closures(makes [][]int, dead [][]int) impl.Chunk {
	var chunk impl.Chunk
	for n := range makes {
		p := impl.Proto{Regs: 2, Line: 10 + n, Dots: true, Code: []impl.Instr{{Op: impl.InsTick}}}
		for _, of := range makes[n] {
			p.Code = append(p.Code, impl.Instr{Op: impl.InsClosure, A: 1, B: of, C: of})
		}
		p.Code = append(p.Code, end)
		for _, of := range dead[n] {
			p.Code = append(p.Code, impl.Instr{Op: impl.InsClosure, B: of})
		}
		p.Code = append(p.Code, end)
		p.Lines = many(10+n, len(p.Code))
		chunk.Protos = append(chunk.Protos, p)
	}
	return chunk
}

// checkFunctions looks which functions are left, told by their lines less 10, and what these make closures of by then.
func checkFunctions(t *testing.T, makes, dead [][]int, left []int, made [][]int) {
	t.Helper()
	chunk := closures(makes, dead)
	got := checkShorter(t, "functions", chunk)
	var lines []int
	var names [][]int
	for _, p := range got.Protos {
		lines = append(lines, p.Line-10)
		var of []int
		for _, i := range p.Code {
			if i.Op == impl.InsClosure {
				of = append(of, i.B)
				// C says nothing; it was set to the number of before.
				if want := left[i.B]; i.C != want {
					t.Errorf("a closure of function %d of before is made one of %d", i.C, want)
				}
			}
		}
		names = append(names, of)
	}
	if !slices.Equal(lines, left) || fmt.Sprint(names) != fmt.Sprint(made) {
		t.Errorf("of functions that make closures of %v (and of %v in vain) these are left: %v, with closures of %v, want %v, %v", makes, dead, lines, names, left, made)
	}
	checkSameRuns(t, "functions", chunk, got, paced(1))
}

func TestOptimizeFunctions(t *testing.T) {
	t.Parallel()
	none := make([][]int, 10)
	// The last alone, though others make closures of each other.
	checkFunctions(t, [][]int{{}}, none, []int{0}, [][]int{{}})
	checkFunctions(t, [][]int{{}, {}, {}}, none, []int{2}, [][]int{{}})
	checkFunctions(t, [][]int{{}, {0}, {1, 0}, {}}, none, []int{3}, [][]int{{}})
	// All; some; those through others.
	checkFunctions(t, [][]int{{}, {}, {0, 1}}, none, []int{0, 1, 2}, [][]int{{}, {}, {0, 1}})
	checkFunctions(t, [][]int{{}, {0}, {1}, {2}}, none, []int{0, 1, 2, 3}, [][]int{{}, {0}, {1}, {2}})
	checkFunctions(t, [][]int{{}, {}, {}, {1}}, none, []int{1, 3}, [][]int{{}, {0}})
	checkFunctions(t, [][]int{{}, {}, {}, {0, 2}}, none, []int{0, 2, 3}, [][]int{{}, {}, {0, 1}})
	checkFunctions(t, [][]int{{}, {}, {}, {2, 2, 0, 2}}, none, []int{0, 2, 3}, [][]int{{}, {}, {1, 1, 0, 1}})
	checkFunctions(t, [][]int{{}, {}, {0}, {}, {2}, {4}}, none, []int{0, 2, 4, 5}, [][]int{{}, {0}, {1}, {2}})
	// Those that only functions that are left out make closures of.
	checkFunctions(t, [][]int{{}, {0}, {}, {1, 2}, {2}}, none, []int{2, 4}, [][]int{{}, {0}})
	checkFunctions(t, [][]int{{}, {0}, {1}, {2}, {0}}, none, []int{0, 4}, [][]int{{}, {0}})
	// Made where nothing comes to.
	checkFunctions(t, [][]int{{}, {}, {1}}, [][]int{{}, {}, {0}}, []int{1, 2}, [][]int{{}, {0}})
	checkFunctions(t, [][]int{{}, {}, {}, {2}}, [][]int{{}, {0}, {1}, {0}}, []int{2, 3}, [][]int{{}, {0}})
	checkFunctions(t, [][]int{{}, {}, {}}, [][]int{{}, {0}, {1, 0}}, []int{2}, [][]int{{}})
	// A function that stands for the same thing as another is one of its own.
	checkFunctions(t, [][]int{{}, {}, {}, {}, {3, 1}}, none, []int{1, 3, 4}, [][]int{{}, {}, {1, 0}})
}

// Functions of texts, of which closures are made only where nothing comes to.
func TestOptimizeFunctionsOfTexts(t *testing.T) {
	t.Parallel()
	for _, c := range []struct {
		source string
		left   []int // by their lines
		gives  string
	}{
		{"local function f() return 1 end return f()", []int{1, 1}, "1"},
		{"do return 5 end local function f() return function() end end", []int{1}, "5"},
		{"do return (function()\nreturn 7 end)() end\nreturn function() end", []int{1, 1}, "7"},
		{"goto a do local f = function() end end ::a:: return 3", []int{1}, "3"},
		{"while true do break end\nlocal function g() do return 2 end\nreturn function() return g end end return g()", []int{2, 1}, "2"},
		{"local x = 1\nif x then return (function() return x end)()\nelse return (function() return 2 end)() end", []int{2, 3, 1}, "1"},
		{"repeat do break end\nx = function() end until true\nlocal y = function(...) return ... end return y(8)", []int{3, 1}, "8"},
		{"local a = 1\nlocal function f() local function unused() return a end\nlocal function g() a = a + 1 return a end return g() end\nreturn f()", []int{2, 3, 2, 1}, "2"},
	} {
		chunk := compiled(t, c.source)
		got := checkShorter(t, c.source, chunk)
		var lines []int
		for _, p := range got.Protos {
			lines = append(lines, p.Line)
		}
		if !slices.Equal(lines, c.left) {
			t.Errorf("%s: the functions of lines %v are left, want %v", c.source, lines, c.left)
		}
		if out := checkSameRuns(t, c.source, chunk, got, paced(10)); toldShort(out) != "= "+c.gives {
			t.Errorf("%s: %s", c.source, outcomeText(out))
		}
	}
}
