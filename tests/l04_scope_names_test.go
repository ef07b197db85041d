package tests

import (
	"fmt"
	"slices"
	"strings"
	"testing"

	"loop.example/g00002/impl"
)

// P6: what every name stands for, and what the functions are. Uses are told in the order of nodes: x=2 is a declaration
// with register 2 (x=2! if it is captured), x.2 a local, x^2 an upvalue, x? a global. Functions are told by the number of
// parameters, ... if there are more, and their upvalues: .2 from a register, ^2 from an upvalue.

func useText(name string, u impl.Use) string {
	text := name + map[int]string{impl.UseDecl: "=", impl.UseLocal: ".", impl.UseUp: "^", impl.UseGlobal: "?"}[u.Where]
	if u.Where != impl.UseGlobal || u.Index != 0 {
		text += fmt.Sprint(u.Index)
	}
	if u.Captured {
		text += "!"
	}
	return text
}

func funcText(f impl.Func) string {
	text := fmt.Sprint(f.Params)
	if f.Dots {
		text += "..."
	}
	for _, up := range f.Ups {
		sign := "^"
		if up.FromLocal {
			sign = "."
		}
		text += fmt.Sprintf(" %s%d", sign, up.Index)
	}
	return text
}

// nodesOf are the places of the nodes of some kinds.
func nodesOf(tree impl.Tree, kinds ...int) []int {
	var places []int
	for i, n := range tree.Nodes {
		if slices.Contains(kinds, n.Kind) {
			places = append(places, i)
		}
	}
	return places
}

// scopedText tells an answer of Scope, if its nodes are those of the tree that are to be told.
func scopedText(tree impl.Tree, s impl.Scoped) (uses string, functions []string, ok bool) {
	var nodes, texts []string
	for _, u := range s.Uses {
		if u.Node < 0 || u.Node >= len(tree.Nodes) {
			return "", nil, false
		}
		nodes = append(nodes, fmt.Sprint(u.Node))
		texts = append(texts, useText(tree.Nodes[u.Node].Text, u))
	}
	var heads []string
	for _, f := range s.Funcs {
		heads = append(heads, fmt.Sprint(f.Node))
		functions = append(functions, funcText(f))
	}
	ok = fmt.Sprint(nodes) == fmt.Sprint(nodesOf(tree, impl.NodeName, impl.NodeDecl)) && fmt.Sprint(heads) == fmt.Sprint(nodesOf(tree, impl.NodeFunction))
	return strings.Join(texts, " "), functions, ok
}

// checkScope holds all that Scope tells of a text against what is told of its uses and, in the order of nodes, its functions.
func checkScope(t *testing.T, source, uses string, functions ...string) {
	t.Helper()
	s, fault := impl.Scope(source)
	if fault != (impl.Fault{}) {
		t.Errorf("Scope(%q) tells %+v", source, fault)
		return
	}
	tree, _ := impl.Parse(source)
	gotUses, gotFunctions, ok := scopedText(tree, s)
	if !ok || gotUses != uses || !slices.Equal(gotFunctions, functions) {
		t.Errorf("Scope(%q)\nhas the uses %s\nwant          %s\nand functions %q\nwant          %q\nat their nodes: %v", source, gotUses, uses, gotFunctions, functions, ok)
	}
	checkShorterText(t, source)
}

// checkNames looks at a text with no function but its own.
func checkNames(t *testing.T, source, uses string) {
	t.Helper()
	checkScope(t, source, uses, "0...")
}

func TestScopeNothing(t *testing.T) {
	s, fault := impl.Scope("")
	if fault != (impl.Fault{}) || len(s.Uses) != 0 || len(s.Funcs) != 1 || funcText(s.Funcs[0]) != "0..." || s.Funcs[0].Node != 1 {
		t.Errorf("Scope of nothing is %+v, %+v", s, fault)
	}
	checkNames(t, "do ; end ::a:: goto a", "")
	checkNames(t, "return ..., 1, 'a', nil, {...}", "")
}

// The whole answer, number by number.
func TestScopeNumbers(t *testing.T) {
	for source, want := range map[string]impl.Scoped{
		"x = y": {Uses: []impl.Use{{Node: 0, Where: 3}, {Node: 1, Where: 3}}, Funcs: []impl.Func{{Node: 4, Dots: true}}},
		"local a <const> = 1 return a": {Uses: []impl.Use{{Node: 0, Where: 4}, {Node: 3, Where: 1}},
			Funcs: []impl.Func{{Node: 6, Dots: true}}},
		"local a, b function f(c, ...) b = c return function() return b end end": {
			Uses: []impl.Use{{Node: 0, Where: 4}, {Node: 1, Where: 4, Index: 1, Captured: true}, {Node: 3, Where: 3}, {Node: 4, Where: 4},
				{Node: 5, Where: 2}, {Node: 6, Where: 1}, {Node: 8, Where: 2}},
			Funcs: []impl.Func{{Node: 11, Ups: []impl.Up{{Index: 0}}}, {Node: 14, Params: 1, Dots: true, Ups: []impl.Up{{FromLocal: true, Index: 1}}}, {Node: 17, Dots: true}}},
		"for i = 1, n do repeat local u until u + i end": {
			Uses: []impl.Use{{Node: 0, Where: 4, Index: 3}, {Node: 2, Where: 3}, {Node: 3, Where: 4, Index: 4}, {Node: 6, Where: 1, Index: 4},
				{Node: 7, Where: 1, Index: 3}},
			Funcs: []impl.Func{{Node: 13, Dots: true}}},
	} {
		s, fault := impl.Scope(source)
		if fault != (impl.Fault{}) || fmt.Sprintf("%+v", s) != fmt.Sprintf("%+v", want) {
			t.Errorf("Scope(%q) is\n%+v, %+v, want\n%+v", source, s, fault, want)
		}
	}
}

func TestScopeConstants(t *testing.T) {
	got := []int{impl.UseLocal, impl.UseUp, impl.UseGlobal, impl.UseDecl, impl.MaxLocals, impl.MaxUps, impl.FaultVararg, impl.FaultBreak, impl.FaultLabel, impl.FaultGoto,
		impl.FaultConst, impl.FaultLocals, impl.FaultUpvals}
	if want := []int{1, 2, 3, 4, 180, 60, 10, 11, 12, 13, 14, 15, 16}; !slices.Equal(got, want) {
		t.Errorf("the constants are %v, want %v", got, want)
	}
}

// Names of fields, methods and labels are no names of variables.
func TestScopeWhatIsAName(t *testing.T) {
	checkNames(t, "x = y", "x? y?")
	checkNames(t, "a.b.c = d.e", "a? d?")
	checkNames(t, "local b a.b = b", "b=0 a? b.0")
	checkNames(t, "local b a:b(b)", "b=0 a? b.0")
	checkNames(t, "local b a = {b = b, [b] = b, b}", "b=0 a? b.0 b.0 b.0 b.0")
	checkNames(t, "local b ::b:: goto b", "b=0")
	checkNames(t, "a['b'][b] = 'b'", "a? b?")
	checkNames(t, "a(b, c){d}'e':f(g)", "a? b? c? d? g?")
	checkNames(t, "a = not b + -c .. #d ^ (e) and f or g < h", "a? b? c? d? e? f? g? h?")
	checkNames(t, "if a then return b elseif c then d() else return e, f end", "a? b? c? d? e? f?")
	checkNames(t, "local const <const>, close <close> = close, const return const, close", "const=0 close=1 close? const? const.0 close.1")
}

func TestScopeLocals(t *testing.T) {
	checkNames(t, "local x x = x", "x=0 x.0 x.0")
	checkNames(t, "local x = x x()", "x=0 x? x.0")
	checkNames(t, "x() local x x()", "x? x=0 x.0")
	checkNames(t, "local x local x = x x()", "x=0 x=1 x.0 x.1")
	checkNames(t, "local x, y = y, x f(x, y)", "x=0 y=1 y? x? f? x.0 y.1")
	checkNames(t, "local x, x x()", "x=0 x=1 x.1")
	checkNames(t, "local x local x local x x()", "x=0 x=1 x=2 x.2")
	checkNames(t, "local x <const> = 1 local x = x x = x", "x=0 x=1 x.0 x.1 x.1")
	checkNames(t, "do local x x() end x()", "x=0 x.0 x?")
	checkNames(t, "local x do x() local x x() end x()", "x=0 x.0 x=1 x.1 x.0")
	checkNames(t, "local x do local x do local x x() end x() end x()", "x=0 x=1 x=2 x.2 x.1 x.0")
	checkNames(t, "do local x local x x() end x() do x() end", "x=0 x=1 x.1 x? x?")
	checkNames(t, "while x do local x x() end x()", "x? x=0 x.0 x?")
	checkNames(t, "if x then local x x() elseif x then local x x() else x() local x end x()", "x? x=0 x.0 x? x=0 x.0 x? x=0 x?")
}

func TestScopeLocalFunctions(t *testing.T) {
	checkScope(t, "local function f() return f end f()", "f=0! f^0 f.0", "0 .0", "0...")
	checkScope(t, "local f = function() return f end f()", "f=0 f? f.0", "0", "0...")
	checkScope(t, "local f local f = function() return f end f()", "f=0! f=1 f^0 f.1", "0 .0", "0...")
	checkScope(t, "local f local function f() return f end f()", "f=0 f=1! f^0 f.1", "0 .1", "0...")
	checkScope(t, "f() local function f(f) return f end", "f? f=0 f=0 f.0", "1", "0...")
	checkScope(t, "do local function f() end f() end f()", "f=0 f.0 f?", "0", "0...")
	checkScope(t, "function f() return f end", "f? f?", "0", "0...")
	checkScope(t, "local f function f() return f end", "f=0! f.0 f^0", "0 .0", "0...")
}

func TestScopeLoops(t *testing.T) {
	checkNames(t, "for i = i, i, i do i() end i()", "i=3 i? i? i? i.3 i?")
	checkNames(t, "local i for i = i, i do i = i end i()", "i=0 i=4 i.0 i.0 i.4 i.4 i.0")
	checkNames(t, "for a, b in a, b do a(b) end a(b)", "a=3 b=4 a? b? a.3 b.4 a? b?")
	checkNames(t, "local a, b for b, a in a, b do a(b) end a(b)", "a=0 b=1 b=5 a=6 a.0 b.1 a.6 b.5 a.0 b.1")
	checkNames(t, "for a, a in b do a() end", "a=3 a=4 b? a.4")
	checkNames(t, "for i = 1, 2 do local i = i i() end", "i=3 i=4 i.3 i.4")
	checkNames(t, "for i = 1, 2 do for i = i, i do i() end i() end", "i=3 i=7 i.3 i.3 i.7 i.3")
	checkNames(t, "for i in f do for i in i do i() end i() end i()", "i=3 f? i=7 i.3 i.7 i.3 i?")
	checkScope(t, "for i = function() return i end, 2 do end", "i=3 i?", "0", "0...")
	checkScope(t, "for i in function() return i end do end", "i=3 i?", "0", "0...")
	checkScope(t, "local i for i in function(i) return i end, i do i() end", "i=0 i=4 i=0 i.0 i.0 i.4", "1", "0...")
}

func TestScopeRepeat(t *testing.T) {
	checkNames(t, "repeat local x until x x()", "x=0 x.0 x?")
	checkNames(t, "local x repeat local x = x until x x()", "x=0 x=1 x.0 x.1 x.0")
	checkNames(t, "repeat do local x end until x", "x=0 x?")
	checkNames(t, "repeat local x do local x end until x", "x=0 x=1 x.0")
	checkNames(t, "repeat local x repeat local y until x + y until x + y", "x=0 y=1 x.0 y.1 x.0 y?")
	checkNames(t, "repeat for x = 1, 2 do end until x", "x=3 x?")
	checkScope(t, "repeat local x until f(function() return x end)", "x=0! f? x^0", "0 .0", "0...")
	checkScope(t, "repeat local function f() end until f()", "f=0 f.0", "0", "0...")
	checkNames(t, "repeat local a, b until a local c", "a=0 b=1 a.0 c=0")
}

func TestScopeParameters(t *testing.T) {
	checkScope(t, "function f(a, b) a(b) end a(b)", "f? a=0 b=1 a.0 b.1 a? b?", "2", "0...")
	checkScope(t, "function f(a, a) a() end", "f? a=0 a=1 a.1", "2", "0...")
	checkScope(t, "local a function f(a) a() end a()", "a=0 f? a=0 a.0 a.0", "1", "0...")
	checkScope(t, "function f(a) a() local a = a a() end", "f? a=0 a.0 a=1 a.0 a.1", "1", "0...")
	checkScope(t, "f(function(a, ...) return a, ... end)", "f? a=0 a.0", "1...", "0...")
	checkScope(t, "f(function(...) return ... end)", "f?", "0...", "0...")
	checkScope(t, "f(function(a, b, c) end, function() end, function(d, ...) end)", "f? a=0 b=1 c=2 d=0", "3", "0", "1...", "0...")
	checkScope(t, "return function(a) return function(b) return function(c) end end end", "a=0 b=0 c=0", "1", "1", "1", "0...")
}

func TestScopeSelf(t *testing.T) {
	checkScope(t, "function a:b() return self end", "a? self=0 self.0", "1", "0...")
	checkScope(t, "function a:b(c, d) return d, c, self end self()", "a? self=0 c=1 d=2 d.2 c.1 self.0 self?", "3", "0...")
	checkScope(t, "function a.b:c(...) return self end", "a? self=0 self.0", "1...", "0...")
	checkScope(t, "function a.b() return self end", "a? self?", "0", "0...")
	checkScope(t, "local self function self:m() return self end", "self=0 self.0 self=0 self.0", "1", "0...")
	checkScope(t, "function a:b() return function() return self end end", "a? self=0! self^0", "0 .0", "1", "0...")
	checkScope(t, "function a:b(self) return self end", "a? self=0 self=1 self.1", "2", "0...")
	checkScope(t, "function a:b() function c:d() return self end return self end", "a? self=0 c? self=0 self.0 self.0", "1", "1", "0...")
}

func TestScopeRegisterOfEach(t *testing.T) {
	checkNames(t, "local a, b, c local d", "a=0 b=1 c=2 d=3")
	checkNames(t, "local a do local b do local c end local d end local e", "a=0 b=1 c=2 d=2 e=1")
	checkNames(t, "do local a, b end do local c end local d", "a=0 b=1 c=0 d=0")
	checkNames(t, "local a while a do local b end local c", "a=0 a.0 b=1 c=1")
	checkNames(t, "local a if a then local b, c elseif a then local d else local e local f end local g", "a=0 a.0 b=1 c=2 a.0 d=1 e=1 f=2 g=1")
	checkNames(t, "local a for i = 1, 2 do local b end local c", "a=0 i=4 b=5 c=1")
	checkNames(t, "local a for i, j, k in a do local b end local c", "a=0 i=4 j=5 k=6 a.0 b=7 c=1")
	checkNames(t, "for a, b in c do local d for i = 1, 2 do local e end local f end local g", "a=3 b=4 c? d=5 i=9 e=10 f=6 g=0")
	checkNames(t, "for i = 1, 2 do end for j in k do end local l", "i=3 j=3 k? l=0")
	checkNames(t, "for i = 1, 2 do for j = 1, 2 do for k in l do local m end local n end local o end", "i=3 j=7 k=11 l? m=12 n=8 o=4")
	checkNames(t, "repeat local a repeat local b until a local c until b", "a=0 b=1 a.0 c=1 b?")
	checkNames(t, "repeat local a for i = 1, 2 do local b end until a local c", "a=0 i=4 b=5 a.0 c=0")
	checkScope(t, "local a, b function f(c) local d function g(e, h) local i end local j end local k",
		"a=0 b=1 f? c=0 d=1 g? e=0 h=1 i=2 j=2 k=2", "2", "1", "0...")
	checkScope(t, "local a, b = function() local c, d end, function(e) local g end local h", "a=0 b=1 c=0 d=1 e=0 g=1 h=2", "0", "1", "0...")
	checkScope(t, "local function f(a) local b end local c", "f=0 a=0 b=1 c=1", "1", "0...")
	checkScope(t, "for i = 1, 2 do f(function(a) for j in k do local b end end) local c end", "i=3 f? a=0 j=4 k? b=5 c=4", "1", "0...")
	checkScope(t, "for i = f(function(a) local b end), 2 do local c end", "i=3 f? a=0 b=1 c=4", "1", "0...")
}

func TestScopeUpvaluesInOrder(t *testing.T) {
	checkScope(t, "local a, b, c function f() return c, a, c, b, a end", "a=0! b=1! c=2! f? c^0 a^1 c^0 b^2 a^1", "0 .2 .0 .1", "0...")
	checkScope(t, "local a, b, c function f() b = c end", "a=0 b=1! c=2! f? b^0 c^1", "0 .1 .2", "0...")
	checkScope(t, "local a, b function f() a = b end function g() b = a end", "a=0! b=1! f? a^0 b^1 g? b^0 a^1", "0 .0 .1", "0 .1 .0", "0...")
	checkScope(t, "local a, b function f() return a + b * a end", "a=0! b=1! f? a^0 b^1 a^0", "0 .0 .1", "0...")
	checkScope(t, "local a, b function f() for i = b, a do end end", "a=0! b=1! f? i=3 b^0 a^1", "0 .1 .0", "0...")
	checkScope(t, "local a, b function f() repeat b() until a end", "a=0! b=1! f? b^0 a^1", "0 .1 .0", "0...")
	checkScope(t, "local a, b, c, d function f() c[b] = a.x[d] end", "a=0! b=1! c=2! d=3! f? c^0 b^1 a^2 d^3", "0 .2 .1 .0 .3", "0...")
	checkScope(t, "local a, b, c, d function f() return b:m(a), {[d] = c} end", "a=0! b=1! c=2! d=3! f? b^0 a^1 d^2 c^3", "0 .1 .0 .3 .2", "0...")
	checkScope(t, "local a, b, c function f() if b then return c elseif a then end end", "a=0! b=1! c=2! f? b^0 c^1 a^2", "0 .1 .2 .0", "0...")
	checkScope(t, "local a, b local function f(c) local d = b return a, d, c end", "a=0! b=1! f=2 c=0 d=1 b^0 a^1 d.1 c.0", "1 .1 .0", "0...")
}

func TestScopeUpvaluesThroughFunctions(t *testing.T) {
	checkScope(t, "local a, b, c function f() return c, a, function() return b, a end end",
		"a=0! b=1! c=2! f? c^0 a^1 b^0 a^1", "0 ^2 ^1", "0 .2 .0 .1", "0...")
	checkScope(t, "local a return function() return function() return function() return a end end end", "a=0! a^0", "0 ^0", "0 ^0", "0 .0", "0...")
	checkScope(t, "local a return function() local b return function() local c return function() return c, b, a end end end",
		"a=0! b=0! c=0! c^0 b^1 a^2", "0 .0 ^0 ^1", "0 .0 ^0", "0 .0", "0...")
	checkScope(t, "return function(a) local b return function() return b, a end end", "a=0! b=1! b^0 a^1", "0 .1 .0", "1", "0...")
	checkScope(t, "local a, b return function() f(function() return b end) return a, b end", "a=0! b=1! f? b^0 a^1 b^0", "0 ^0", "0 .1 .0", "0...")
	checkScope(t, "local a, b return function() f(a, function() return b, a end) return b end", "a=0! b=1! f? a^0 b^0 a^1 b^1", "0 ^1 ^0", "0 .0 .1", "0...")
	checkScope(t, "local a, b return function() return function() return a end, function() return b, a end end",
		"a=0! b=1! a^0 b^0 a^1", "0 ^0", "0 ^1 ^0", "0 .0 .1", "0...")
	checkScope(t, "local a return function() local a = a return function() return a end end", "a=0! a=0! a^0 a^0", "0 .0", "0 .0", "0...")
	checkScope(t, "local a return function() f(function() return a end) local a return function() return a end end",
		"a=0! f? a^0 a=0! a^0", "0 ^0", "0 .0", "0 .0", "0...")
	checkScope(t, "local x local function g() local y local function h() x, y = y, x end end",
		"x=0! g=1 y=0! h=1 x^0 y^1 y^1 x^0", "0 ^0 .0", "0 .0", "0...")
	checkScope(t, "do local a, b do local c function f() return c end end local d function g() return d end end", "a=0 b=1 c=2! f? c^0 d=2! g? d^0",
		"0 .2", "0 .2", "0...")
}

func TestScopeCaptured(t *testing.T) {
	checkScope(t, "local a, b function f() return a end b()", "a=0! b=1 f? a^0 b.1", "0 .0", "0...")
	checkScope(t, "local a a() do local a function f() a = 1 end end a()", "a=0 a.0 a=1! f? a^0 a.0", "0 .1", "0...")
	checkScope(t, "local a function f() a() end local a function g() a() end a()", "a=0! f? a^0 a=1! g? a^0 a.1", "0 .0", "0 .1", "0...")
	checkScope(t, "for i = 1, 2 do local j f(function() return i end) end", "i=3! j=4 f? i^0", "0 .3", "0...")
	checkScope(t, "for i, j in k do f(function() return j end) end", "i=3 j=4! k? f? j^0", "0 .4", "0...")
	checkScope(t, "local a <const>, b <close> = 1 function f() return b end", "a=0 b=1! f? b^0", "0 .1", "0...")
	checkScope(t, "function f(a, b) function b() return a end end", "f? a=0! b=1 b.1 a^0", "0 .0", "2", "0...")
	checkScope(t, "local a function f(b) local function g() return b end return a, g end", "a=0! f? b=0! g=1 b^0 a^0 g.1", "0 .0", "1 .0", "0...")
	checkScope(t, "local a function f() local a a() end", "a=0 f? a=0 a.0", "0", "0...")
	checkScope(t, "local f function f(x) return x end", "f=0 f.0 x=0 x.0", "1", "0...")
}

// The lists of one answer, and those of two, share no memory.
func TestScopeSharesNothing(t *testing.T) {
	const source = "local a, b, c function f(x) local y return a, b, function() return a, x, c, y end end function g() return b, c, a end function h() return a end"
	told := func(s impl.Scoped) string { return fmt.Sprintf("%+v", s) }
	s, _ := impl.Scope(source)
	want := told(s)
	for i := range s.Funcs {
		ups := s.Funcs[i].Ups[:cap(s.Funcs[i].Ups)]
		for j := range ups {
			ups[j].Index = 1000*i + j
		}
	}
	for i := range s.Funcs {
		for j, up := range s.Funcs[i].Ups[:cap(s.Funcs[i].Ups)] {
			if up.Index != 1000*i+j {
				t.Fatalf("the upvalues of function %d share memory with others", i)
			}
		}
	}
	uses, functions := s.Uses[:cap(s.Uses)], s.Funcs[:cap(s.Funcs)]
	clear(uses)
	clear(functions)
	again, _ := impl.Scope(source)
	if told(again) != want {
		t.Errorf("writing into one answer changes the next")
	}
	third, _ := impl.Scope(source)
	clear(again.Uses)
	for _, f := range again.Funcs {
		clear(f.Ups)
	}
	clear(again.Funcs)
	if told(third) != want {
		t.Errorf("two answers share memory")
	}
}
