package tests

import (
	"strings"
	"testing"

	"loop.example/g00002/impl"
)

// P5, what is of tokens and trees: the first fault is told, with its place, and nothing beside it.

// checkMarked looks at texts with one fault, by themselves and behind others. It is at the mark !, which isn't of the text.
func checkMarked(t *testing.T, code int, texts ...string) {
	t.Helper()
	for _, marked := range texts {
		ahead, behind, found := strings.Cut(marked, "!")
		if !found {
			t.Errorf("%q has no mark", marked)
		}
		for _, before := range []string{"", "a = 1; ", "\n\n", "-- x\n --[[\n]] f();\r\n"} {
			whole := before + ahead
			checkParseFault(t, whole+behind, impl.Fault{Code: code, Line: 1 + strings.Count(whole, "\n"), At: len(whole)})
		}
	}
}

func TestParseFaultTokenOfStatements(t *testing.T) {
	checkMarked(t, impl.FaultToken, "!1", "!'a'", "!{}", "!nil", "!...", "!-a", "!=", "!,", "!)", "!.", "!end", "!else", "!elseif", "!until", "!then", "!in",
		"!and", "!or", "!not a", "f() !end", "\n!end", "; !)")
	checkMarked(t, impl.FaultToken, "if!", "if !then", "if a!", "if a !do", "if a then!", "if a then !until", "if a then else!", "if a then else !else",
		"if a then else !elseif b then end", "if a then elseif!", "if a then elseif !then", "if a then elseif b!", "if a then elseif b !do", "if a then elseif b then!",
		"if a then return !if b then end end", "if a then return; !if b then end end", "if a then return 1 !if b then end end", "if a then return 1 !then end", "if a then end !end", "if a then end !else")
	checkMarked(t, impl.FaultToken, "while!", "while !do", "while a!", "while a !then", "while a do!", "while a do !until", "do!", "do !else", "do !elseif", "do !until",
		"do end !end", "repeat!", "repeat !end", "repeat !else", "repeat until!", "repeat until !end", "repeat until a !end")
	checkMarked(t, impl.FaultToken, "for!", "for !1", "for !(", "for a!", "for a !b", "for a !.b = 1, 2 do end", "for a !do", "for a !<const> = 1, 2", "for a =!", "for a = 1!",
		"for a = 1 !do end", "for a = 1, !do", "for a = 1, 2!", "for a = 1, 2, !do", "for a = 1, 2, 3 !, 4 do end", "for a = 1, 2 !end", "for a = 1, 2 do!", "for a = 1 !in b")
	checkMarked(t, impl.FaultToken, "for a,!", "for a, !in", "for a, b!", "for a, b != 1", "for a, b !do", "for a in!", "for a in !do", "for a in b!", "for a in b,!",
		"for a in b, !do", "for a in b !then", "for a in b do!")
	checkMarked(t, impl.FaultToken, "goto!", "goto !1", "goto !end", "goto !::", "::!", "::!1", "::!end::", "::a!", "::a !:", "::a !b", "::!::", "break !1", "break != 1")
}

func TestParseFaultTokenOfDeclarations(t *testing.T) {
	checkMarked(t, impl.FaultToken, "function!", "function !()", "function !1", "function a!", "function a !b", "function a != 1", "function a.!", "function a. !1", "function a.!()",
		"function a.b!", "function a:!", "function a:!()", "function a:b!", "function a:b!.c() end", "function a:b!:c() end", "function a![1]() end", "function a(!", "function a()!",
		"function a() end !end")
	checkMarked(t, impl.FaultToken, "local!", "local !1", "local !end", "local !(a)", "local != 1", "local !< const > a", "local a!.b", "local a(!)", "local a![1]", "local a b!",
		"local a,!", "local a, !1", "local a, !function b() end", "local a =!", "local a = !;", "local a = 1,!", "local a = 1 !2", "local a !>", "local a !== 1")
	checkMarked(t, impl.FaultToken, "local a <!", "local a <!>", "local a <!end>", "local a <!1>", "local a <!'const'>", "local a <const!", "local a <const !>= 1", "local a <const !b",
		"local a <close!, b", "local a <const> !<close>", "local a <const> !<const> = 1", "local a !<= 1")
	checkMarked(t, impl.FaultToken, "local function!", "local function !()", "local function !1", "local function a!", "local function a!.b() end", "local function a!:b() end",
		"local function a !<const>() end", "local function a(!", "local function a()!")
	checkMarked(t, impl.FaultToken, "x = function!", "x = function !a() end", "x = function(!", "x = function(!,) end", "x = function(a!", "x = function(a !b) end", "x = function(a,!) end",
		"x = function(...!, a) end", "x = function(a, ...!, b) end", "x = function(!1) end", "x = function(a !<const>) end", "x = function()!", "x = function() return 1 !2 end",
		"x = function() !else", "x = function() !until")
}

func TestParseFaultTokenOfTargets(t *testing.T) {
	checkMarked(t, impl.FaultToken, "a!", "a\n!", "a.b!", "a[1]!", "(a)!", "a !b", "a !1", "a.b !c", "a !;", "a !+ 1", "a !end", "a !return", "a !local b", "a, b!", "a, b !c = 1",
		"a !or b", "a !== b", "a, b !;", "a, b !+ 1")
	checkMarked(t, impl.FaultToken, "f() != 1", "f() !, a = 1", "a, f() != 1", "a, f() !, b = 1", "a, f()!", "(a) != 1", "(a) !, b = 1", "b, (a) != 1", "((a)) != 1", "(a) !b",
		"o:m() != 1", "a, o:m() != 1", "f'x' != 1", "f{} != 1", "(f()) != 1", "a, !1 = 2", "a, != 1", "a, !{} = 1", "f() !+ 1", "f() !1")
	checkMarked(t, impl.FaultToken, "a =!", "a = 1,!", "a = !=", "a = !end", "a, b = !;", "a = b != c", "a = 1 != 2", "a = b, c != 1")
	// A suffixed takes all that goes with it, on the next line too.
	checkMarked(t, impl.FaultToken, "a = b (c).d != 1", "f\n(a) != 1", "a = f\n(b).c != 1", "a = f()\n(b).c()\n(d) != 1")
}

func TestParseFaultTokenOfExpressions(t *testing.T) {
	checkMarked(t, impl.FaultToken, "(!", "(!)", "(a!", "(a !b)", "(a!,b)", "x = (!)", "x = (a!", "x = (a!,b)", "x = a!)")
	checkMarked(t, impl.FaultToken, "a.!", "a. !1", "a.!end = 1", "a.!'b'", "a.!(b)", "a[!", "a[!]", "a[1!", "a[1 != 1", "a[1!, 2]", "a:!", "a:!1", "a:!end()", "a:b!", "a:b != 1",
		"a:b !. c()", "a:b ![1]", "f(!", "f(!,)", "f(1!", "f(1,!)", "f(1 !2)", "f(!;)", "f(1!;2)", "f(a!=1)")
	checkMarked(t, impl.FaultToken, "x = 1 !.a", "x = 'a' !.b", "x = 'a' !:b()", "x = {} !.a", "x = nil !.a", "x = {} !{}", "x = 1 !'a'", "x = 'a' !'b'", "x = ... !.a",
		"x = function() end !.a", "x = function() end !'a'", "x = true ![1]", "x = 1.5 !2")
	checkMarked(t, impl.FaultToken, "x = 1 +!", "x = 1 + !* 2", "x = 1 !not 2", "x = 1 !# 2", "x = not!", "x = - !)", "x = a .. !..", "x = a and !or b", "x = a < !> b", "x = a ^ !^ b", "x = !and b",
		"x = !* b", "x = !.a", "x = !..", "x = !::", "x = !local", "x = !return")
	checkMarked(t, impl.FaultToken, "x = {!", "x = {!,}", "x = {!;}", "x = {1!", "x = {1,!,}", "x = {1,!;}", "x = {1 !2}", "x = {1!)", "x = {a = !}", "x = {a = 1!= 2}", "x = {[!] = 1}",
		"x = {[1!= 2}", "x = {[1] !2}", "x = {[1]!}", "x = {[1] !== 2}", "x = {a.b != 1}", "x = {'a' != 1}", "x = {1 != 2}", "x = {(a) != 2}", "x = {!end", "x = {end_ = !end}", "x = {!=}")
}

// Behind return comes the end of its block.
func TestParseFaultTokenBehindReturn(t *testing.T) {
	checkMarked(t, impl.FaultToken, "return !return", "return !break", "return 1 !x", "return != 1", "return 1,!", "return 1, !;", "return; !;", "return 1; !;", "return; !x()",
		"return !local x", "do return !do end end", "return 1 !end", "return !end", "do return 1!", "return; !return", "return a !b()", "return f() != 1", "return !)", "return !::a::",
		"repeat return !end", "repeat return 1 !x until y", "repeat return; !1", "while a do return 1; !; end", "return {}, function() return 1 !1 end", "return a !break", "do return end !end")
}

func TestParseFaultAttrib(t *testing.T) {
	checkMarked(t, impl.FaultAttrib, "local x <!foo> = 1", "local x <!foo>", "local x <!Const>", "local x <!CLOSE>", "local x <!consts>", "local x <!_>", "local a <const>, b <!x>",
		"local a <close>, b <!close>", "local a <close>, b <const>, c <!close>", "local a, b <close>, c, d <!close> = 1", "do local x <!y> end", "f(function() local x <!y> end)",
		"local a <close>, b <!closed>", "local x <\n!y>", "local a <close> local b <close>, c <!close>")
	for _, source := range []string{"local a <const>, b <const>", "local a <close> local b <close>", "local a <close> = function() local b <close> end", "local close <const>, const <close>", "local a <const>, b <close>, c <const>"} {
		checkParseFault(t, source, impl.Fault{})
	}
}

func TestParseFirstFault(t *testing.T) {
	checkMarked(t, impl.FaultAttrib, "local x <!y", "local x <!y 1", "local x <!y = )", "local x <!y> local z <", "local x <!y> x = }", "local a <close>, b <!close", "local a <close>, b <!close 1",
		"local x <!y>, z <w>", "local a <!b>, c <close>, d <close>")
	checkMarked(t, impl.FaultToken, "x = !} local x <y>", "local a <const !a> b", "local a <const !local b <y>", "local a <close>, !<close>", "x !y local z <w>", "a, f() != 1 local x <y>",
		"x = !} y = }", "local !1 <x>", "local x <!nil>, y <z>")
	// A fault of tokens comes first, wherever it stands.
	for source, fault := range map[string]impl.Fault{
		"x = } @":                  {Code: impl.FaultByte, Line: 1, At: 6},
		"local x <y>\n3x":          {Code: impl.FaultNumber, Line: 2, At: 12},
		"end 'a":                   {Code: impl.FaultString, Line: 1, At: 4},
		"end '\\q'":                {Code: impl.FaultEscape, Line: 1, At: 5},
		"end [[":                   {Code: impl.FaultLong, Line: 1, At: 4},
		"end --[[":                 {Code: impl.FaultLong, Line: 1, At: 6},
		"x = 1 ! = 2":              {Code: impl.FaultByte, Line: 1, At: 6},
		"local x <y> } \n ' @":     {Code: impl.FaultString, Line: 2, At: 16},
		"x = 1 )\n\n$ local x <y>": {Code: impl.FaultByte, Line: 3, At: 9},
	} {
		checkParseFault(t, source, fault)
	}
	checkParseFault(t, "end"+strings.Repeat(" ", impl.MaxSource), impl.Fault{Code: impl.FaultLarge, Line: 1})
}

// Every fault that Lex tells goes through.
func TestParseTellsFaultsOfTokens(t *testing.T) {
	codes := map[int]int{}
	for _, source := range randomTexts(4000, 8) {
		if _, fault := modelLex(source); fault.Code != 0 {
			checkParseFault(t, source, fault)
			codes[fault.Code]++
		}
	}
	for _, code := range []int{impl.FaultByte, impl.FaultString, impl.FaultEscape, impl.FaultNumber, impl.FaultLong} {
		if codes[code] == 0 {
			t.Errorf("there is no text with the fault %d", code)
		}
	}
}

// nesting is a text that is made deeper by repeating open and shut, and one deeper by each sign ~ in its middle.
type nesting struct {
	begin, open, inner, behind, shut, end string
}

func (n nesting) text(count, signs int) string {
	return n.begin + strings.Repeat(n.open, count) + n.inner + strings.Repeat("~", signs) + "a" + n.behind + strings.Repeat(n.shut, count) + n.end
}

func nestings() []nesting {
	return []nesting{
		{begin: "x = ", open: "(", shut: ")"}, {begin: "x = ", open: "-~"}, {begin: "x = ", open: "not "}, {begin: "return ", open: "#"},
		{begin: "x = ", shut: "+1"}, {begin: "x = ", shut: "<<1"}, {begin: "x = ", shut: "==b"}, {begin: "x = ", open: "a^"}, {begin: "x = ", open: "a.."},
		{begin: "x = ", shut: " and b"}, {begin: "x = ", shut: " or b"}, {begin: "x = ", open: "b and (", shut: ")"},
		{begin: "x = ", open: "{", shut: "}"}, {begin: "x = ", open: "{[1]=", shut: "}"}, {begin: "x = ", open: "{b=", shut: "}"}, {begin: "x = ", open: "{[", shut: "]=1}"},
		{begin: "(", behind: ")", shut: "()"}, {begin: "(", behind: ")", shut: "{}"}, {begin: "(", behind: ")", shut: "''"}, {begin: "(", behind: ")", shut: ":m()"},
		{begin: "(", behind: ")", shut: ".b", end: " = 1"}, {begin: "(", behind: ")", shut: "[1]", end: " = 1"}, {begin: "b, (", behind: ")", shut: "[1]", end: " = 1"},
		{begin: "x = ", open: "b[", shut: "]"}, {begin: "x = ", open: "f(1,", shut: ",2)"}, {begin: "f(", open: "f{", shut: "}", end: ")"}, {begin: "f(", open: "o:m(", shut: ")", end: ")"},
		{open: "do ", inner: "x = ", shut: " end"}, {open: "while b do ", inner: "x = ", shut: " end"}, {open: "repeat ", inner: "x = ", shut: " until b"}, {inner: "repeat until ", end: " "},
		{open: "if b then ", inner: "x = ", shut: " end"}, {open: "if b then else ", inner: "x = ", shut: " end"}, {open: "if b then elseif c then ", inner: "x = ", shut: " else end"},
		{open: "for i = 1, 2 do ", inner: "x = ", shut: " end"}, {open: "for b in c do ", inner: "x = ", shut: " end"}, {inner: "for i = 1, 2, ", end: " do end"}, {inner: "local b = "},
		{open: "function f() ", inner: "x = ", shut: " end"}, {open: "local function f() ", inner: "x = ", shut: " end"}, {open: "return function(b) ", inner: "return ", shut: " end"},
		{open: "if b then return f(function() ", inner: "return ", shut: " end) end"},
	}
}

// depthOfText is the depth of the tree of a text that has no fault.
func depthOfText(t *testing.T, source string) int {
	t.Helper()
	tree, fault := impl.Parse(source)
	if fault.Code != 0 {
		t.Fatalf("%q has the fault %+v", source, fault)
	}
	return depthOf(tree)
}

func TestParseFaultDepth(t *testing.T) {
	deep := impl.Fault{Code: impl.FaultDepth, Line: 1}
	for _, n := range nestings() {
		flat := depthOfText(t, n.text(1, 0))
		each := depthOfText(t, n.text(2, 0)) - flat
		count := 1
		if each > 0 {
			count += (impl.MaxDepth - flat) / each
		}
		signs := impl.MaxDepth - flat - (count-1)*each
		if depth := depthOfText(t, n.text(count, signs)); depth != impl.MaxDepth {
			t.Errorf("%q is %d deep", n.text(count, signs), depth)
		}
		checkParseFault(t, n.text(count, signs+1), deep)
		checkParseFault(t, "\n f()"+n.text(count, signs+1), deep)
		checkParseFault(t, n.text(count+1, signs+1), deep)
		checkParseFault(t, n.text(count+300, 300), deep)
	}
	parens := func(count int) string { return "x = " + strings.Repeat("(", count) + "1" + strings.Repeat(")", count) }
	checkParseFault(t, parens(196), impl.Fault{})
	checkParseFault(t, parens(197), deep)
}

// A deep text that has another fault tells that one.
func TestParseFaultDepthIsLast(t *testing.T) {
	for _, n := range nestings() {
		source := n.text(300, 300)
		if strings.Contains(n.text(1, 1), "return") {
			source = "do " + source + " end"
		}
		checkMarked(t, impl.FaultToken, source+" !}", source+" !end", "do "+source+"!", source+" f() != 1")
		checkMarked(t, impl.FaultAttrib, source+" local x <!y>")
		checkParseFault(t, source+" @", impl.Fault{Code: impl.FaultByte, Line: 1, At: len(source) + 1})
		checkParseFault(t, "local x <y> "+source, impl.Fault{Code: impl.FaultAttrib, Line: 1, At: 9})
	}
	checkMarked(t, impl.FaultToken, "x = "+strings.Repeat("(", 197)+"1!", "x = "+strings.Repeat("(", 197)+"!", "x = "+strings.Repeat("-~", 5000)+"!")
}

// Texts of MaxSource bytes, as deep and as long as they can be, whole and torn.
func TestParseOfGreatestTexts(t *testing.T) {
	for _, n := range nestings() {
		length := len(n.open + n.shut)
		if length == 0 {
			continue
		}
		room := impl.MaxSource - len(n.text(1, 0))
		source := n.text(1+room/length, 0) + strings.Repeat(" ", room%length)
		checkParseFault(t, source, impl.Fault{Code: impl.FaultDepth, Line: 1})
		checkParseFault(t, source+" ", impl.Fault{Code: impl.FaultLarge, Line: 1})
		half := source[:len(source)/2]
		_, fault := impl.Parse(half)
		if fault.Code != impl.FaultToken && fault.Code != impl.FaultDepth && fault.Code != impl.FaultString {
			t.Errorf("half of %q.. tells %+v", source[:50], fault)
		}
	}
	for _, token := range append(allTokens(), "f()", "do ", "::a::", "a=1;", "local a", "x={") {
		source := strings.Repeat(token+" ", impl.MaxSource/(len(token)+1))
		_, fault := impl.Parse(source)
		text, same := impl.Format(source)
		if fault != same || fault.Code != 0 && text != "" {
			t.Errorf("Parse and Format of %q.. tell %+v and %+v", token, fault, same)
		}
	}
	long := strings.Repeat(";", impl.MaxSource-len("f()")) + "f()"
	checkNodes(t, long, "Name 1:32765 \"f\"\nCall 1:32766 [0]\nRun 1:32765 [1]\nBlock 1:0 [2]\nFunction 1:0 \"...\" [3]")
}

func TestParseOfRandomBytes(t *testing.T) {
	row := words(20000)
	for i := range 2000 {
		var source []byte
		for _, word := range row[10*i : 10*i+1+i%10] {
			for shift := range 8 {
				source = append(source, byte(word>>(8*shift)))
			}
		}
		_, fault := modelLex(string(source))
		if fault.Code != 0 {
			checkParseFault(t, string(source), fault)
		}
	}
}

// Rows of tokens by chance, most of which are no texts of the grammar.
func TestParseOfRandomTokens(t *testing.T) {
	g := readGrammar(theGrammar)
	all := append(allTokens(), "a", "a", "=", "(", ")", "()", "= 1", ";")
	row := words(12 * 4000)
	for i := range 4000 {
		source := ""
		for _, word := range row[12*i : 12*i+1+i%12] {
			source += all[word>>20%uint64(len(all))] + " "
		}
		checkByGrammar(t, g, source)
	}
}
