package tests

import (
	"fmt"
	"strings"
	"testing"

	"loop.example/g00002/impl"
)

// P5, what is of scopes: of the faults of chapter 5 the one with the least place, and nothing beside it.

// checkScopeFault looks that a fault is told and nothing else; Code 0 stands for none.
func checkScopeFault(t *testing.T, source string, want impl.Fault) {
	t.Helper()
	s, fault := impl.Scope(source)
	if fault != want || want.Code != 0 && (len(s.Uses) != 0 || len(s.Funcs) != 0) {
		t.Errorf("Scope(%.300q) = %d uses, %d functions, %+v, want %+v", source, len(s.Uses), len(s.Funcs), fault, want)
	}
}

// checkScopeMarked looks at texts with a fault at the mark !, which isn't of the text: by themselves, behind other
// statements, and inside of a block, a function and an expression.
func checkScopeMarked(t *testing.T, code int, texts ...string) {
	t.Helper()
	for _, marked := range texts {
		ahead, behind, found := strings.Cut(marked, "!")
		if !found {
			t.Errorf("%q has no mark", marked)
		}
		for _, around := range [][2]string{{"", ""}, {"a = 1; ", ""}, {"\n\n", "\n"}, {"-- x\n --[[\n]] f();\r\n", ""}, {"do ", " end"}, {"if a then\n", " else end"},
			{"function zz() ", " end"}, {"f(function(...)\n", " end)"}} {
			whole := around[0] + ahead
			checkScopeFault(t, whole+behind+around[1], impl.Fault{Code: code, Line: 1 + strings.Count(whole, "\n"), At: len(whole)})
		}
	}
}

func checkNoScopeFault(t *testing.T, texts ...string) {
	t.Helper()
	for _, source := range texts {
		checkScopeFault(t, source, impl.Fault{})
		checkShorterText(t, source)
		checkScopeFault(t, "while a do "+source+" end", impl.Fault{})
		checkScopeFault(t, "local function zz(...) "+source+" end", impl.Fault{})
	}
}

func TestScopeFaultVararg(t *testing.T) {
	checkScopeMarked(t, impl.FaultVararg, "function f() return !... end", "function f(a)\n g(a, !...) end", "local function f() local x = {!...} end",
		"x = function() if a then return 1 + !... end end", "function a:b() for i = !..., 2 do end end", "function f(...) return function() return (!...) end end",
		"function f() g(!..., ...) end", "function f() return function(...) return ... end, !... end", "function f() repeat until !... end")
	checkNoScopeFault(t, "return ...", "local a = {..., 1}", "f(...)", "function f(...) return ... end", "function f(a, ...) do g(..., a) end end",
		"function f() return function(...) return ... end end", "function a:b(...) return ... end", "while ... do end")
}

func TestScopeFaultBreak(t *testing.T) {
	checkScopeMarked(t, impl.FaultBreak, "!break", "f() !break", "do !break end", "if a then !break end", "if a then elseif b then else !break end",
		"while a do end !break", "repeat until a\n!break", "for i = 1, 2 do end !break", "for a in b do end !break",
		"while a do f(function() !break end) end", "repeat local function f() !break end until a", "for i = 1, 2 do function f() do !break end end end",
		"for a in b do return function() !break end end", "repeat until f(function() !break end)", "while f(function() !break end) do end",
		"for i = f(function() !break end), 2 do end", "while a do function f() while b do break end !break end end")
	for _, loop := range [][2]string{{"while a do ", " end"}, {"repeat ", " until a"}, {"for i = 1, 2 do ", " end"}, {"for a in b do ", " end"}} {
		for _, inside := range []string{"break", "f() break g()", "do break end", "if a then break else do break end end", "if a then elseif b then break end",
			"while a do break end break", "repeat break until a break", "for i = 1, 2 do break end break", "for a in b do break end break",
			"f(function() while a do break end end) break", "break break", "repeat until f(function() end) break"} {
			checkNoScopeFault(t, loop[0]+inside+loop[1])
		}
		checkScopeMarked(t, impl.FaultBreak, loop[0]+"break"+loop[1]+" !break")
	}
}

func TestScopeFaultLabel(t *testing.T) {
	checkScopeMarked(t, impl.FaultLabel, "::a:: !::a::", "::a:: f() local x !::a::", "::a:: ::b:: !::a:: ::a:: ::b::", "goto a ::a:: !::a::",
		"::a:: do !::a:: end", "do !::a:: end ::a::", "::a:: do do !::a:: end end", "do do !::a:: end ::b:: end ::a::",
		"::a:: while b do !::a:: end", "repeat !::a:: until b ::a::", "for i = 1, 2 do !::a:: end f() ::a::", "for b in c do if d then !::a:: end end ::a::",
		"if b then elseif c then !::a:: else end ::a::", "if b then else !::a:: end ::a::", "repeat ::a:: do\n!::a:: end until b",
		"do ::b:: do !::a:: ::a:: end end ::a::", "do ::a:: !::a:: end", "function f() ::a:: do !::a:: end end",
		"do ::a:: end do ::a:: !::a:: end", "::b:: do ::a:: end !::b::", "while b do ::a:: end repeat ::a:: while c do !::a:: end until d")
	checkNoScopeFault(t, "::a:: ::b::", "do ::a:: end do ::a:: end", "if x then ::a:: elseif y then ::a:: else ::a:: end", "do ::a:: end do do ::a:: end end",
		"::a:: function f() ::a:: end", "function f() ::a:: end ::a::", "::a:: f(function() do ::a:: end end)", "repeat ::a:: until f(function() ::a:: end)",
		"while x do ::a:: end repeat ::a:: until x", "local a ::a:: function a() end", "do ::a:: ::b:: end do ::b:: ::a:: end", "::a:: ::A:: ::aa::")
}

func TestScopeFaultGotoWithoutLabel(t *testing.T) {
	checkScopeMarked(t, impl.FaultGoto, "!goto a", "do !goto a end", "!goto a ::b::", "!goto a ::A::", "!goto a local a", "do ::a:: end !goto a", "!goto a do ::a:: end",
		"::b:: function f() !goto b end", "function f() !goto b end ::b::", "function f() ::b:: end !goto b", "while x do ::b:: f(function() !goto b end) end",
		"if x then ::a:: else !goto a end", "if x then !goto a else ::a:: end", "repeat !goto a until f(function() ::a:: end)",
		"while x do ::c:: end !goto c", "for i = 1, 2 do !goto c end for a in b do ::c:: end", "goto a !goto b ::a::", "!goto b goto a ::a::")
}

// A label behind a goto, with what is declared between them.
func TestScopeFaultGotoIntoReach(t *testing.T) {
	for _, between := range []string{"local x", "local x, y = 1", "local x <const> = 1", "local x <close> = nil", "local function x() end", "f() local x g()", "local x local function y() end",
		"local x do end", "::b:: local x", "local x ::b::", "do local z end local x", "local x do local z end"} {
		for _, reach := range []string{" ::a:: f()", " ::a:: return", " ::a:: local z", " ::a:: do end", " ::a:: ::c:: f() ::d::", " ::a:: break", " ::a:: goto a", " ::a:: function h() end"} {
			behind := " " + between + reach
			loop := [2]string{"while l do ", " end "}
			checkScopeMarked(t, impl.FaultGoto, loop[0]+"!goto a"+behind+loop[1], loop[0]+"do !goto a end"+behind+loop[1], loop[0]+"local w !goto a"+behind+loop[1],
				loop[0]+"if x then f() elseif y then !goto a end"+behind+loop[1], loop[0]+"while x do while y do\n!goto a end end"+behind+loop[1],
				loop[0]+"for i = 1, 2 do local w !goto a end"+behind+loop[1], loop[0]+"repeat local w !goto a until w"+behind+loop[1],
				"repeat !goto a"+behind+" until w", "for l in m do !goto a"+behind+loop[1])
		}
		for _, reach := range []string{" ::a::", " ::a:: ::c::", " ::e:: ::a:: ::c:: ::d::", " ::a:: ;", " ::a:: ; ::c:: ;;"} {
			behind := " " + between + reach
			checkNoScopeFault(t, "goto a"+behind, "do goto a end"+behind, "local w goto a"+behind, "do goto a"+behind+" end f()", "repeat do goto a"+behind+" end until x",
				"if x then goto a"+behind+" end f()", "for i = 1, 2 do goto a"+behind+" end", "repeat while x do goto a"+behind+" end until y", "f(function() goto a"+behind+" end)",
				"repeat until f(function() goto a"+behind+" end)", "repeat f(function() goto a"+behind+" end) until y")
			checkScopeMarked(t, impl.FaultGoto, "repeat !goto a"+behind+" until x", "repeat do !goto a end"+behind+" until x", "repeat if x then else !goto a end"+behind+"\nuntil x",
				"while y do repeat !goto a"+behind+" until x end")
		}
	}
}

func TestScopeFaultGotoNot(t *testing.T) {
	checkNoScopeFault(t, "goto a ::a::", "goto a ::a:: f()", "goto a f() ::a:: f()", "goto a do local x end ::a:: f()", "goto a ::a:: local x f()",
		"goto a for i = 1, 2 do end ::a:: f()", "goto a for i in x do local y end ::a:: f()", "goto a function x() end ::a:: f()", "goto a repeat local x until x ::a:: f()",
		"goto a x = function() local y end ::a:: f()", "local x goto a ::a:: f()", "local function x() end goto a ::a:: f()", "local x do local y goto a end ::a:: f()", "do local x goto a local y end ::a:: f()",
		"::a:: local x goto a", "::a:: goto a", "::a:: local x do goto a end f()", "::a:: local function x() end while y do local z goto a end f()",
		"repeat ::a:: local x goto a until x", "repeat local x ::a:: if x then goto a end until x", "repeat goto a ::a:: until x", "repeat local x goto a ::a:: until x",
		"repeat local x do goto a end ::a:: until x", "do goto a end ::a::", "do do goto a end end do end ::a:: f()", "goto a ::b:: goto b ::a:: goto b")
	// The label of the innermost block counts, though one further out is in reach.
	checkScopeMarked(t, impl.FaultGoto, "do !goto a local x ::a:: f() end ::a::", "::a:: do do !goto a end local x ::a:: f() end")
	checkScopeMarked(t, impl.FaultLabel, "do goto a !::a:: end local x ::a:: f()", "do local x !::a:: goto a end local y ::a:: f()")
	// That of a function around doesn't.
	checkNoScopeFault(t, "local x f(function() goto a ::a:: end) local y ::a:: f()", "goto a f(function() local x end) ::a:: f()")
}

func TestScopeFaultConst(t *testing.T) {
	for _, local := range []string{"local x <const> = 1 ", "local x <close> = nil ", "local y, x <const> ", "local x <const>, y ", "local y <const>, x <close> = 1, 2\n"} {
		checkScopeMarked(t, impl.FaultConst, local+"!x = 2", local+"z, !x = 2", local+"!x, z = 2", local+"z.a, !x, z[1] = 2", local+"function !x() end",
			local+"do !x = 2 end", local+"while z do if z then !x = x end end", local+"repeat !x = 2 until x", local+"for i = 1, 2 do !x = i end",
			local+"function f() !x = 2 end", local+"return function() return function() !x = 2 end end", local+"local function f() z, !x = 2 end",
			local+"do local x end !x = 2", local+"function f(x) x = 1 end !x = 2", local+"for x = 1, 2 do x = 1 end !x = 2", local+"x.y = 1 !x = x.y", local+"local z = 1 !x, x = 2",
			local+"f(function() function !x() end end)", local+"x[function() !x = 1 end].y = 1", "local x "+local+"!x = 1", "repeat "+local+"until f(function() !x = 1 end)")
		checkNoScopeFault(t, local+"z = x", local+"x.y = 1", local+"x[1], x.y.z = 1, 2", local+"(x).y = 1", local+"function x.y() end", local+"function x:y() end", local+"x()",
			local+"local x = 1 x = 2", local+"local x x = 2", local+"do local x x = 2 end", local+"function f(x) x = 2 end", local+"for x = 1, 2 do x = 2 end",
			local+"for x in z do x = 2 end", local+"local function x() x = 2 end x = 3", local+"function f() local x x = 2 end", "x = 1 "+local,
			"do "+local+"end x = 2", local+"function z:x() self = x end", local+"local x = x x = x")
	}
	checkNoScopeFault(t, "local x = 1 x = 2", "x = 1", "local x local y <const> = 1 x = y", "for i = 1, 2 do i = 3 end", "local function f() end f = 1", "function a:b() self = 1 end")
	checkScopeMarked(t, impl.FaultConst, "local x, x <const> = 1 !x = 1")
	checkNoScopeFault(t, "local x <const>, x = 1 x = 1")
}

// named makes a list of so many names.
func named(prefix string, count int) string {
	list := make([]string, count)
	for i := range list {
		list[i] = fmt.Sprint(prefix, i)
	}
	return strings.Join(list, ", ")
}

func TestScopeFaultLocals(t *testing.T) {
	check := func(ahead int, fits, faulty string) {
		t.Helper()
		checkNoScopeFault(t, "f(function("+named("v", ahead)+") "+fits+" end)")
		for _, begin := range []string{"local " + named("v", ahead) + " ", "local " + named("v", ahead-50) + "\nlocal " + named("w", 50) + " = 1 ",
			"function f(" + named("v", ahead) + ") ", "local x for " + named("v", ahead-4) + " in w do ", "repeat local " + named("v", ahead) + " "} {
			end := map[byte]string{'l': "", 'f': " end", 'r': " until x"}[begin[0]]
			if strings.HasPrefix(begin, "local x") {
				end = " end"
			}
			checkScopeFault(t, begin+fits+end, impl.Fault{})
			good, bad, _ := strings.Cut(faulty, "!")
			whole := begin + good
			checkScopeFault(t, whole+bad+end, impl.Fault{Code: impl.FaultLocals, Line: 1 + strings.Count(whole, "\n"), At: len(whole)})
		}
	}
	check(179, "local a", "local a, !b")
	check(180, "do end", "do local !a end")
	check(179, "do local a end local b do f(a) end", "do local a end local b do local !c end")
	check(178, "local a, b", "local a, b, !c, d")
	check(179, "local function a() end", "local a local function !b() end")
	check(180, "do end", "do local function !b(x) end end")
	check(176, "for i = 1, 2 do end", "for i = 1, 2 do local !a end")
	check(177, "local a", "for !i = 1, 2 do end")
	check(178, "local a, b", "for !i = 1, 2 do end")
	check(180, "while x do end", "for !i = 1, 2 do end")
	check(175, "for i, j in x do end", "for i, j, !k in x do end")
	check(176, "for i in x do end", "for i, !j in x do end")
	check(177, "local a", "for !i, j in x do end")
	check(176, "for i in x do end local a, b, c, d", "for i in x do end local a, b, c, d, !e")
	check(172, "for i = 1, 2 do for j = 1, 2 do end end", "for i = 1, 2 do local a for !j = 1, 2 do end end")
	check(180, "repeat until x", "repeat local !a until a")
	check(180, "function zz("+named("p", 180)+") end", "function zz("+named("p", 180)+", !q) end")
	check(180, "function zz:z("+named("p", 179)+", ...) end", "function zz:z("+named("p", 179)+", !q) end")
	check(180, "return function() local "+named("p", 180)+" end", "return function() local "+named("p", 180)+", !q, r end")
	checkNoScopeFault(t, strings.Repeat("do local a, b, c end ", 200))
	checkNoScopeFault(t, "function f("+named("p", 180)+", ...) end", "function f(self, "+named("p", 179)+", ...) end", "for "+named("p", 177)+" in x do end")
	checkScopeMarked(t, impl.FaultLocals, "function f(self, "+named("p", 179)+", !q, r, ...) end", "for "+named("p", 177)+", !q, r in x do end")
}

func TestScopeFaultUpvals(t *testing.T) {
	outer := "local " + named("v", 100) + " "
	use := func(count int) string { return "f(" + named("v", count) + ") " }
	checkNoScopeFault(t, outer+"function f() "+use(60)+"end", outer+"function f() "+use(60)+use(60)+"end")
	checkScopeMarked(t, impl.FaultUpvals, outer+"function f() "+use(60)+"g(!v60) end", outer+"function f() "+use(60)+"g(v0, v59, !v99, v98) end",
		outer+"function f() "+use(60)+"!v77 = 1 end", outer+"function f() "+use(60)+use(60)+"\n!v60() end", outer+"function f() local a = {"+named("v", 60)+"} return x + a + !v60 end",
		outer+"function f() function g() "+use(60)+"end h(v1, !v60) end", outer+"function f() function g() "+use(30)+"end h(v1) function g() "+use(60)+"end return function() return v1, !v60 end end",
		outer+"return function() return function() return function() "+use(60)+"return !v60 end end end",
		outer+"return function() local w f(w) "+use(59)+"return function() return w, v59, !v60 end end",
		outer+"return function() local w return function() "+use(59)+"w(v1, !v60) end end",
		outer+"return function() "+use(60)+"local function w() return w, v1, !v60 end end",
		outer+"function f() "+use(60)+"function g() do repeat until !v60 end end end")
	// Through functions between: each has at most 60, though all together need more.
	checkNoScopeFault(t, outer+"function f() "+use(60)+"end function g() f(v60, v61, v99) end",
		outer+"return function() local "+named("w", 100)+" return function() return "+named("w", 30)+", "+named("v", 30)+" end, function() return "+named("w", 60)+" end end",
		outer+"function f() local w "+use(60)+"w() g() end", outer+"function f("+named("v", 100)+") "+use(100)+"end", outer+use(100),
		outer+"return function() local w local u return function() return w, u, "+named("v", 58)+" end, function() return "+named("v", 60)+" end end")
	checkScopeMarked(t, impl.FaultUpvals, outer+"return function() return function() return "+named("v", 40)+" end, function() return v99, v98, "+named("v", 58)+", !v58 end end")
}

// Of two faults the one with the least place is told, and of two at one place the one with the lesser code.
func TestScopeFirstFault(t *testing.T) {
	checkScopeMarked(t, impl.FaultBreak, "!break goto a", "!break function f() return ... end", "!break ::a:: ::a::", "!break local x <const> = 1 x = 2")
	checkScopeMarked(t, impl.FaultGoto, "!goto a break", "!goto a ::b:: ::b::", "!goto a goto b", "function f() !goto a return ... end", "!goto a local "+named("v", 181))
	checkScopeMarked(t, impl.FaultVararg, "function f() g(!...) goto a end", "function f() g(!..., ...) break end break", "local x <const> = 1 function f() x.y = !... x = 2 end")
	checkScopeMarked(t, impl.FaultConst, "local x <const> = 1 !x = 2 break", "local x <const> = 1 !x = function() return ... end", "local x <const>, y <const> = 1 z, !x, y = 2 y = 3",
		"local x <const> = 1 !x = 2 ::a:: ::a::")
	// A fault that is known only from what stands behind it.
	checkScopeMarked(t, impl.FaultLabel, "do !::a:: break end goto b ::a::", "do !::a:: end break ::a::", "do !::a:: ::a:: end ::a::")
	checkScopeMarked(t, impl.FaultGoto, "do !goto a break end local x ::a:: f()", "while y do !goto a local x ::x:: ::x:: ::a:: f() end", "!goto b ::a:: ::a::")
	checkScopeMarked(t, impl.FaultLabel, "goto a ::a:: !::a:: break", "goto a ::a:: local x !::a:: f()", "local x ::a:: goto a local y !::a:: f()")
	checkScopeMarked(t, impl.FaultLocals, "local "+named("v", 180)+", !w break", "local "+named("v", 180)+", !w, x ::a:: ::a::")
	outer := "local " + named("v", 100) + " local x <const>, y <close> = 1 "
	use := "f(" + named("v", 60) + ") "
	checkScopeMarked(t, impl.FaultConst, outer+"function f() "+use+"!x = 1 end", outer+"function f() "+use+"!y = v60 end", outer+"function f() function g() "+use+"end !x, v61 = v62 end",
		outer+"function f() "+use+"return function() function !x() end end end")
	checkScopeMarked(t, impl.FaultUpvals, outer+"function f() "+use+"!v60, x = 1 end", outer+"function f() "+use+"z = !x x = 1 end", outer+"function f() "+use+"!v60 = ... break end")
	checkScopeMarked(t, impl.FaultVararg, outer+"function f() "+use+"f(!..., v60) end")
}

// Every fault of Parse goes through, whatever else is wrong with the text.
func TestScopeTellsFaultsOfParse(t *testing.T) {
	codes := map[int]int{}
	check := func(source string) {
		t.Helper()
		if _, fault := impl.Parse(source); fault.Code != 0 {
			checkScopeFault(t, source, fault)
			codes[fault.Code]++
		}
	}
	for _, source := range randomTexts(4000, 8) {
		check(source)
	}
	for _, source := range formsOfGrammar() {
		for _, token := range allTokens() {
			check("break goto a " + source + " " + token)
			check(source + "\nlocal x <" + token + "> break")
			check(token + " " + source)
		}
	}
	for _, n := range nestings() {
		check("break " + n.text(300, 0))
		check(n.text(1, 300))
	}
	check("break goto a" + strings.Repeat(" ", impl.MaxSource))
	for code := impl.FaultLarge; code <= impl.FaultAttrib; code++ {
		if codes[code] == 0 {
			t.Errorf("there is no text with the fault %d", code)
		}
	}
}

func TestScopeOfRandomBytes(t *testing.T) {
	row := words(20000)
	for i := range 2000 {
		var source []byte
		for _, word := range row[10*i : 10*i+1+i%10] {
			for shift := range 8 {
				source = append(source, byte(word>>(8*shift)))
			}
		}
		_, fault := impl.Parse(string(source))
		if s, same := impl.Scope(string(source)); fault.Code != 0 && (same != fault || len(s.Uses)+len(s.Funcs) != 0) {
			t.Errorf("Scope(%q) tells %+v, Parse %+v", source, same, fault)
		}
	}
}

// Texts of MaxSource bytes: many of one thing, side by side or one inside the other.
func TestScopeOfGreatestTexts(t *testing.T) {
	fill := func(ahead, each, behind string) string {
		room := impl.MaxSource - len(ahead) - len(behind)
		return ahead + strings.Repeat(each, room/len(each)) + strings.Repeat(" ", room%len(each)) + behind
	}
	check := func(source string, code, at int) {
		t.Helper()
		if len(source) != impl.MaxSource {
			t.Fatalf("%q.. has %d bytes", source[:20], len(source))
		}
		s, fault := impl.Scope(source)
		if fault.Code != code || fault.At != at || code != 0 && len(s.Uses)+len(s.Funcs) != 0 {
			t.Errorf("Scope(%q..) tells %+v, want %d at %d", source[:20], fault, code, at)
		}
	}
	check(fill("", " ", ""), 0, 0)
	check(fill("", "a()", ""), 0, 0)
	check(fill("local a ", "a=a ", ""), 0, 0)
	check(fill("", "local a ", ""), impl.FaultLocals, 180*len("local a ")+len("local "))
	check(fill("local a", ",a", ""), impl.FaultLocals, 6+2*180)
	check(fill("", "do local a end ", ""), 0, 0)
	check(fill("", "for a in b do end ", ""), 0, 0)
	check(fill("", "repeat local a until a ", ""), 0, 0)
	check(fill("", "break ", ""), impl.FaultBreak, 0)
	check(fill("while a do ", "break ", "end"), 0, 0)
	check(fill("::a::", "goto a ", ""), 0, 0)
	check(fill("", "goto a ", "::a::"), 0, 0)
	check(fill("local x ", "goto a ", "local y ::a:: f()"), impl.FaultGoto, len("local x "))
	check(fill("", "::a::", ""), impl.FaultLabel, 5)
	check(fill("function f(a", ",a", ") end"), impl.FaultLocals, 11+2*180)
	check(fill("local a ", "function f()a()end ", ""), 0, 0)
	check(fill("function f() return ", "...,", "... end"), impl.FaultVararg, 20)
	labels, gotos := "", ""
	for i := 0; len(labels+gotos) < impl.MaxSource-1000; i++ {
		labels += fmt.Sprintf("::l%d::", i)
		gotos += fmt.Sprintf("goto l%d ", i)
	}
	open, shut := strings.Repeat("do ", 90), strings.Repeat("end ", 90)
	check(fill(labels+open+gotos, " ", shut), 0, 0)
	check(fill(open+gotos+shut+labels, " ", ""), 0, 0)
	check(fill(open+gotos+shut+"local x "+labels, " ", "f()"), impl.FaultGoto, len(open))
	inside := "local " + named("v", 60) + strings.Repeat(" return function()", 60)
	check(fill(inside+" f("+named("v", 60), ",v59", ")"+strings.Repeat(" end", 60)), 0, 0)
	wide := "local " + named("v", 180) + strings.Repeat(" return function()", 60)
	check(fill(wide+" f("+named("v", 180), ",v99", ")"+strings.Repeat(" end", 60)), impl.FaultUpvals, len(wide)+len(" f("+named("v", 60)+", "))
	checkScopeFault(t, fill("break ", " ", "")+" ", impl.Fault{Code: impl.FaultLarge, Line: 1})
}
