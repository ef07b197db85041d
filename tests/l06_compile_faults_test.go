package tests

import (
	"fmt"
	"slices"
	"strings"
	"testing"

	"loop.example/g00002/impl"
)

// P5, what is of code: the first fault of a text and nothing else.

func checkCodeFault(t *testing.T, source string, want impl.Fault) {
	t.Helper()
	c, fault := impl.Compile(source)
	if fault != want || fault.Code != 0 && len(c.Protos) != 0 {
		t.Errorf("Compile(%.120q) tells %+v and %d functions, want %+v", source, fault, len(c.Protos), want)
	}
	if _, again := modelCompile(source); again != want {
		t.Errorf("the model tells %+v of %.120q, want %+v", again, source, want)
	}
}

// checkCodeMarked looks for a fault at the byte behind each mark, which isn't part of the text.
func checkCodeMarked(t *testing.T, code int, texts ...string) {
	t.Helper()
	for _, text := range texts {
		at := strings.Index(text, "!")
		source := text[:at] + text[at+1:]
		checkCodeFault(t, source, impl.Fault{Code: code, Line: 1 + strings.Count(text[:at], "\n"), At: at})
	}
}

func times(text string, count int) string { return strings.Repeat(text, count) }

// shortNames are so many names of two and more letters that are no words.
func shortNames(count int) []string {
	const letters = "abcdefghijklmnopqrstuvwxyzABCDEFGHIJKLMNOPQRSTUVWXYZ_"
	var names []string
	for _, last := range append([]string{""}, strings.Split(letters, "")...) {
		for _, a := range letters {
			for _, b := range letters {
				if name := string(a) + string(b) + last; len(names) < count && !slices.Contains(strings.Fields(theWords), name) {
					names = append(names, name)
				}
			}
		}
	}
	return names
}

// Statements that make a function just large enough to be refused, or as large as it may be. They hold if they are alone in
// their function but for blocks without statements.
func manyRegisters(count int) string { return "f(" + times("1,", count-2) + "1)" }

func manyConstants(count int) string {
	return "x={" + strings.Join(shortNames(count-1), ",") + "}"
}

func manyInstructions(count int) string {
	return times("f''", (count-1)/4) + times(" do end", (count-1)%4)
}

// manyFunctions makes one fewer than told: the text's own is one as well.
func manyFunctions(count int) string { return "x={" + times("function()end,", count-1) + "}" }

// large are the four faults with statements that have them just not, and just so.
func large() []struct {
	code       int
	fits, over string
} {
	return []struct {
		code       int
		fits, over string
	}{
		{impl.FaultRegs, manyRegisters(impl.MaxRegs), manyRegisters(impl.MaxRegs + 1)},
		{impl.FaultConsts, manyConstants(impl.MaxConsts), manyConstants(impl.MaxConsts + 1)},
		{impl.FaultProtos, manyFunctions(impl.MaxProtos), manyFunctions(impl.MaxProtos + 1)},
		{impl.FaultCode, manyInstructions(impl.MaxCode), manyInstructions(impl.MaxCode + 1)},
	}
}

func TestCompileFaultsAtTheirLimits(t *testing.T) {
	for _, l := range large() {
		c, fault := impl.Compile(l.fits)
		if fault.Code != 0 {
			t.Errorf("%.50q tells %+v", l.fits, fault)
			continue
		}
		p := c.Protos[len(c.Protos)-1]
		size := map[int][2]int{impl.FaultRegs: {p.Regs, impl.MaxRegs}, impl.FaultConsts: {len(p.Consts), impl.MaxConsts}, impl.FaultProtos: {len(c.Protos), impl.MaxProtos}, impl.FaultCode: {len(p.Code), impl.MaxCode}}[l.code]
		if size[0] != size[1] {
			t.Errorf("%.50q has the size %d, not %d", l.fits, size[0], size[1])
		}
		checkSafe(t, l.fits)
		checkCodeByModel(t, l.fits)
		checkCodeMarked(t, l.code, "!"+l.over, "\n \n !"+l.over, "-- c\n!"+l.over+" ")
		if l.code == impl.FaultProtos {
			checkCodeMarked(t, l.code, "!f() function g() "+l.over+" end", "!;;"+l.over)
			continue
		}
		checkCodeFault(t, "function g() "+l.fits+" end", impl.Fault{})
		checkCodeMarked(t, l.code, "local !function g() "+l.over+" end", "f()\nx = !function() "+l.over+" end", "f(function() return {o = !function(a) "+l.over+" end} end)",
			"local o\n !function o:m() "+l.over+" end", "!;\n"+l.over)
	}
}

// Each way to need registers, with one too many and with none too many.
func TestCompileFaultRegs(t *testing.T) {
	commas := func(one string, count int) string { return times(one+",", count-1) + one }
	locals := func(count int) string { return "local " + named("v", count) + " " }
	for i := range 2 {
		texts := []string{
			"return " + commas("1", 250+i),
			"return f(" + commas("a", 249+i) + ")",
			"o:m(" + commas("1", 248+i) + ")",
			"o:m(" + commas("1", 247+i) + ", ...)",
			"f(" + commas("1", 248+i) + ", f())",
			commas("a", 250+i) + " = 1",
			commas("a", 250+i) + " = ...",
			commas("a", 250+i) + " = f()",
			"x = " + commas("1", 250+i),
			commas("a[b]", 83) + " = 1" + times(", 1", 82+1+i),
			"local a = " + commas("1", 250+i),
			"for k in " + commas("1", 250+i) + " do end",
			locals(180) + "f(" + commas("1", 69+i) + ")",
			locals(180) + "return " + commas("1", 70+i),
			locals(180) + "o:m(" + commas("1", 68+i) + ")",
			locals(180) + commas("a", 70+i) + " = ...",
			locals(180) + "return {" + times("{", 68+i) + "1" + times("}", 68+i) + "}",
			locals(180) + "return {" + times("{", 67+i) + "[1]=1" + times("}", 67+i) + "}",
			locals(180) + "return " + times("a..", 69+i) + "a",
			locals(180) + "return " + times("b[", 69+i) + "1" + times("]", 69+i),
		}
		for _, text := range texts {
			want := impl.Fault{}
			if i == 1 {
				want = impl.Fault{Code: impl.FaultRegs, Line: 1}
			}
			checkCodeFault(t, text, want)
			if c, _ := impl.Compile(text); i == 0 && c.Protos[0].Regs != impl.MaxRegs {
				t.Errorf("%.80q has %d registers", text, c.Protos[0].Regs)
			}
		}
	}
}

// Constants are counted once each, whatever they are for.
func TestCompileFaultConsts(t *testing.T) {
	var numbers, floats, fields []string
	for i := range 2001 {
		numbers = append(numbers, fmt.Sprint(40000+i))
		floats = append(floats, fmt.Sprint(i, ".5"))
		fields = append(fields, fmt.Sprint("a", i))
	}
	list := func(parts []string, count int) string { return strings.Join(parts[:count], ",") }
	for i := range 2 {
		texts := []string{
			"x={" + list(numbers, 1999+i) + "," + list(floats, 2000) + "}",
			"x={" + list(numbers, 1999) + "," + list(floats, 2000) + "," + times("y,", i) + "40000,0.5,'x',1,2,3,nil,x,40001.0//1|0}",
			"return " + "{" + list(fields, 2000) + "," + list(numbers, 2000) + "," + times("1.5,", i) + "1,-1,32767,'a0','a1999'}",
			"x={" + list(numbers, 2000) + ",40000.0," + strings.Join(fields[:1998], "=1,") + "=1" + times(",0.5", i) + "}",
		}
		for _, text := range texts {
			want := impl.Fault{}
			if i == 1 {
				want = impl.Fault{Code: impl.FaultConsts, Line: 1}
			}
			checkCodeFault(t, text, want)
			if c, _ := impl.Compile(text); i == 0 && len(c.Protos[0].Consts) != impl.MaxConsts {
				t.Errorf("%.80q has %d constants", text, len(c.Protos[0].Consts))
			}
		}
	}
	apart := "function f() x={" + list(numbers, 2001) + "} end function g() x={" + list(floats, 2001) + "} end"
	checkCodeFault(t, apart, impl.Fault{})
}

// Functions are counted in the whole text, be they side by side or one inside the other.
func TestCompileFaultProtos(t *testing.T) {
	inside := func(count int) string {
		return times("f(function()", count) + times("end)", count)
	}
	text := "local a" + times(" "+inside(40), 24)
	for i := range 41 {
		want := impl.Fault{}
		if 24*40+i+1 > impl.MaxProtos {
			want = impl.Fault{Code: impl.FaultProtos, Line: 1}
		}
		checkCodeFault(t, text+times(" function a()end", i), want)
	}
	checkCodeFault(t, "\n\n"+text+times(" function a()end", 40), impl.Fault{Code: impl.FaultProtos, Line: 3, At: 2})
}

// Of two faults of one function the lesser code is told; of two functions at one place as well.
func TestCompileFirstFaultAtOnePlace(t *testing.T) {
	all := large()
	for i, a := range all {
		for _, b := range all[i+1:] {
			checkCodeMarked(t, a.code, "!"+a.over+" "+b.over, "!"+b.over+" "+a.over)
			if a.code == impl.FaultProtos || b.code == impl.FaultProtos {
				continue
			}
			checkCodeMarked(t, a.code, "x = !function() "+b.over+" "+a.over+" end", "!function f() "+a.over+" end "+b.over, "!function f() "+b.over+" end "+a.over)
		}
	}
	functions := manyFunctions(impl.MaxProtos + 1)
	checkCodeMarked(t, impl.FaultRegs, "\n!function f() "+manyRegisters(impl.MaxRegs+1)+" end "+functions)
	checkCodeMarked(t, impl.FaultConsts, "!function f() "+manyConstants(impl.MaxConsts+1)+" end "+functions)
	checkCodeMarked(t, impl.FaultProtos, "!function f() "+manyInstructions(impl.MaxCode+1)+" end "+functions)
}

// Of faults at two places the one with the lesser place is told, whatever their codes and whichever function is inside.
func TestCompileFirstFaultOfTwoPlaces(t *testing.T) {
	regs, code := manyRegisters(impl.MaxRegs+1), manyInstructions(impl.MaxCode+1)
	checkCodeMarked(t, impl.FaultCode,
		"!"+code+" function f() "+regs+" end",
		"!;;function f() "+regs+" end "+code,
		"x = !function() "+code+" end function f() "+regs+" end",
		"x = !function() "+code+" return function() "+regs+" end end",
		"x = !function() local y = function() "+regs+" end "+code+" end")
	checkCodeMarked(t, impl.FaultRegs,
		"!;"+regs+" function f() "+code+" end",
		"!x = function() "+code+" end "+regs,
		"x = !function() "+regs+" end function f() "+code+" end",
		"x = !function() return function() "+code+" end, "+times("1,", 250)+"1 end",
		"x = !function() do local y = function() "+code+" end end "+regs+" end",
		"x.y = function() return function() return 1 end, !function() "+regs+" end end function f() "+code+" end",
		"x = !function() f(function() "+regs+" end) "+regs+" end")
	checkCodeMarked(t, impl.FaultProtos,
		"!f() function g() "+regs+" end "+manyFunctions(impl.MaxProtos+1),
		"!x = function() "+manyFunctions(impl.MaxProtos+1)+regs+" end")
}

// Faults of chapters 3 to 5 come first, wherever they are.
func TestCompileTellsFaultsOfScope(t *testing.T) {
	regs := manyRegisters(impl.MaxRegs + 1)
	for code, texts := range map[int][]string{
		impl.FaultByte:   {"f() !@", regs + "!?"},
		impl.FaultString: {regs + " x = !'a"},
		impl.FaultEscape: {regs + " x = '!\\q'"},
		impl.FaultNumber: {regs + " x = !1x"},
		impl.FaultLong:   {regs + " x = ![[a"},
		impl.FaultToken:  {regs + " x !1", regs + " !end"},
		impl.FaultAttrib: {regs + " local a <!b>", regs + " local a <close>, b <!close>"},
		impl.FaultVararg: {regs + " function f() return !... end", "function f() " + regs + " end function g() g(!...) end"},
		impl.FaultBreak:  {regs + " !break", "while x do function f() !break end end"},
		impl.FaultLabel:  {regs + " ::a:: do !::a:: end"},
		impl.FaultGoto:   {regs + " !goto a", "do !goto a local b ::a:: f() end", "repeat !goto a local b ::a:: until b"},
		impl.FaultConst:  {regs + " local a <const> !a = 1", "local a <close> = f() function f() !a = 1 end"},
		impl.FaultLocals: {"local " + named("v", 180) + ", !w " + regs, "local " + named("v", 177) + " for !i = 1, 2 do end"},
		impl.FaultUpvals: {"local " + named("v", 61) + " function f() f(" + named("v", 60) + ", !v60) end " + regs},
	} {
		checkCodeMarked(t, code, texts...)
	}
	checkCodeFault(t, "f("+times("(", 250)+"1"+times(")", 250)+")", impl.Fault{Code: impl.FaultDepth, Line: 1})
	checkCodeFault(t, "\n\nf()"+times(" ", impl.MaxSource), impl.Fault{Code: impl.FaultLarge, Line: 1})
	codes := map[int]int{}
	check := func(source string) {
		t.Helper()
		if _, fault := impl.Scope(source); fault.Code != 0 {
			checkCodeFault(t, source, fault)
			codes[fault.Code]++
		}
	}
	for _, source := range append(randomTexts(3000, 8), scopedTexts(600, 1)...) {
		check(source)
	}
	for _, source := range formsOfGrammar() {
		for _, token := range allTokens() {
			check("break goto a " + source + " " + token)
			check(source + "\nlocal x <" + token + "> break")
		}
	}
	for _, code := range []int{impl.FaultByte, impl.FaultToken, impl.FaultAttrib, impl.FaultVararg, impl.FaultBreak, impl.FaultGoto} {
		if codes[code] == 0 {
			t.Errorf("there is no text with the fault %d", code)
		}
	}
}

// Trees as deep as they may be.
func TestCompileOfDeepTexts(t *testing.T) {
	whole := 0
	for _, n := range nestings() {
		for count := range impl.MaxDepth {
			source := n.text(count, 0)
			if count%10 != 0 && count < 185 {
				continue
			}
			checkCodeByModel(t, source)
			if checkSafe(t, source) {
				whole++
			}
		}
	}
	if whole < 300 {
		t.Errorf("but %d texts have no fault", whole)
	}
}

func TestCompileOfRandomBytes(t *testing.T) {
	row := words(20000)
	for i := range 2000 {
		var source []byte
		for _, word := range row[10*i : 10*i+1+i%10] {
			for shift := range 8 {
				source = append(source, byte(word>>(8*shift)))
			}
		}
		checkSafe(t, string(source))
	}
}

// Texts of MaxSource bytes: many of one thing, side by side or one inside the other.
func TestCompileOfGreatestTexts(t *testing.T) {
	t.Parallel()
	fill := func(ahead, each, behind string) string {
		room := impl.MaxSource - len(ahead) - len(behind)
		return ahead + times(each, room/len(each)) + times(" ", room%len(each)) + behind
	}
	codes := map[int]int{}
	for _, source := range []string{
		fill("", " ", ""), fill("", "a()", ""), fill("local a ", "a=a ", ""), fill("", "do local a end ", ""), fill("", "for a in b do end ", ""),
		fill("", "repeat local a until a ", ""), fill("while a do ", "break ", "end"), fill("::a::", "goto a ", ""), fill("", "goto a ", "::a::"),
		fill("local a ", "function f()a()end ", ""), fill("return ", "...,", "..."), fill("f{", "1,", "...}"), fill("f{", "a=1,", "}"), fill("f{", "[a]=1,", "f()}"),
		fill("x = ", "{},", "1"), fill("x = 1", "+1", ""), fill("x = '", "y", "'"), fill("x = --[[", "y", "]] 1"), fill("", "local function f()end ", ""),
		fill("do ", "if a then b() end ", "end"), fill("while a do ", "do local a<close> break end ", "end"), fill("a.b", ",a.b", "=1"), fill("", "\n", "return f()"),
		fill("", "while a do break end ", ""), fill("if a then ", "elseif b then c() ", "end"), fill("f(", "function()end,", "1)"), fill("", "for i=1,2 do end ", ""),
	} {
		if len(source) != impl.MaxSource {
			t.Fatalf("%q.. has %d bytes", source[:20], len(source))
		}
		checkSafe(t, source)
		codes[checkCodeByModel(t, source)]++
	}
	if codes[0] < 8 || codes[impl.FaultCode] < 3 || codes[impl.FaultRegs] < 3 || codes[impl.FaultProtos] < 1 {
		t.Errorf("the codes are %v", codes)
	}
	checkCodeFault(t, fill("f()", " ", "")+" ", impl.Fault{Code: impl.FaultLarge, Line: 1})
}

// Chapter 1: an answer is new memory, and no two lists of it share any.
func TestCompileSharesNothing(t *testing.T) {
	const source = "local a, b, c = 70000, 1.5, 'x' function f(x) local y return a, b, function() return a, x, c, y, z end end function g() return b, c, a end function h() return a end"
	told := func(c impl.Chunk) string { return fmt.Sprintf("%+v", c) }
	c, _ := impl.Compile(source)
	want := told(c)
	checkOwnLists(t, c)
	clear(c.Protos[:cap(c.Protos)])
	again, _ := impl.Compile(source)
	third, _ := impl.Compile(source)
	if told(again) != want {
		t.Errorf("writing into one answer changes the next")
	}
	for _, p := range again.Protos {
		clear(p.Ups)
		clear(p.Consts)
		clear(p.Code)
		clear(p.Lines)
	}
	if told(third) != want {
		t.Errorf("two answers share memory")
	}
}
