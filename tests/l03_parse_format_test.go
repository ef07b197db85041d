package tests

import (
	"fmt"
	"regexp"
	"slices"
	"strings"
	"testing"

	"loop.example/g00002/impl"
)

// P4: the text written anew has the same tree but for Line and At; done twice it is the same text.

// shape is all of a tree but for lines and places.
func shape(tree impl.Tree) string {
	nodes := slices.Clone(tree.Nodes)
	for i := range nodes {
		nodes[i].Line, nodes[i].At = 0, 0
	}
	return treeText(impl.Tree{Nodes: nodes})
}

// checkAnew looks at what P4 promises of a text without a fault, and hands the new text out.
func checkAnew(t *testing.T, source string) string {
	t.Helper()
	tree, fault := impl.Parse(source)
	if fault.Code != 0 {
		t.Errorf("%q has the fault %+v", source, fault)
		return ""
	}
	text, fault := impl.Format(source)
	if fault != (impl.Fault{}) {
		t.Errorf("Format(%q) tells %+v", source, fault)
	}
	if len(text) > impl.MaxSource {
		return text
	}
	again, fault := impl.Parse(text)
	if fault.Code != 0 || shape(again) != shape(tree) {
		t.Errorf("%q is written as %q, which has another tree: %+v\n%s\nwant\n%s", source, text, fault, shape(again), shape(tree))
	}
	if twice, fault := impl.Format(text); fault != (impl.Fault{}) || twice != text {
		t.Errorf("%q is written as %q, and this as %q, %+v", source, text, twice, fault)
	}
	checkShorterText(t, source)
	return text
}

func checkFormat(t *testing.T, source, want string) {
	t.Helper()
	if text := checkAnew(t, source); text != want {
		t.Errorf("Format(%q) = %q, want %q", source, text, want)
	}
}

// checkWritten looks how an expression is written.
func checkWritten(t *testing.T, expression, want string) {
	t.Helper()
	checkFormat(t, "x="+expression, "x = "+want+"\n")
	checkFormat(t, "return\n"+expression+";", "return "+want+"\n")
	checkFormat(t, "f("+expression+","+expression+")", "f("+want+", "+want+")\n")
}

func TestFormatSimples(t *testing.T) {
	for _, text := range []string{"nil", "false", "true", "...", "0", "1", "9223372036854775807", "1.5", "0.0", "100.0", "1e+100", "2.5e-07", "1e+17", "10000000000000000.0", "0.00001", "1e-06"} {
		checkWritten(t, text, text)
	}
	for spelled, text := range map[string]string{"007": "7", "0x10": "16", "0XfF": "255", "0x7fffffffffffffff": "9223372036854775807",
		"0x8000000000000000": "0x8000000000000000", "0xFFFFFFFFFFFFFFFF": "0xffffffffffffffff", "0xABCDEF0123456789": "0xabcdef0123456789", "0x1ffffffffffffffff": "0xffffffffffffffff",
		"1e2": "100.0", ".5": "0.5", "5.": "5.0", "1E+100": "1e+100", "9223372036854775808": "9.223372036854776e+18", "1e16": "10000000000000000.0", "1e17": "1e+17",
		"0.000001": "1e-06", "1.25e-9": "1.25e-09", "123456789012345678901": "1.2345678901234568e+20"} {
		checkWritten(t, spelled, text)
	}
}

func TestFormatStrings(t *testing.T) {
	for spelled, text := range map[string]string{"''": `""`, `'a'`: `"a"`, `"'"`: `"'"`, `'"'`: `"\""`, `'\\'`: `"\\"`, "[[a\nb]]": `"a\010b"`, `'\0001'`: `"\0001"`, `'\x41\66'`: `"AB"`,
		"'\t\\r~ '": `"\009\013~ "`, "[==[]]]==]": `"]]"`, "'--'": `"--"`} {
		checkWritten(t, spelled, text)
	}
	for b := range 256 {
		want := fmt.Sprintf(`\%03d`, b)
		switch {
		case b == '"' || b == '\\':
			want = `\` + string(rune(b))
		case b >= 32 && b <= 126:
			want = string(rune(b))
		}
		checkWritten(t, fmt.Sprintf(`'\%d'`, b), `"`+want+`"`)
		checkWritten(t, fmt.Sprintf(`'9\x%02x9'`, b), `"9`+want+`9"`)
	}
}

func TestFormatKeys(t *testing.T) {
	for _, name := range []string{"b", "_", "_1", "B9", "andy", "End", "self", "const", "nan"} {
		checkWritten(t, "a."+name, "a."+name)
		checkWritten(t, "a['"+name+"']", "a."+name)
		checkWritten(t, "{"+name+"=1}", "{"+name+" = 1}")
		checkWritten(t, "{[ [["+name+"]] ]=1}", "{"+name+" = 1}")
	}
	for _, key := range append(strings.Fields(theWords), "", "1", "1a", "a b", " a", "a ", "a.b", "a-", "-a", "(", "...", "+") {
		checkWritten(t, "a['"+key+"']", `a["`+key+`"]`)
		checkWritten(t, "{['"+key+"']=1}", `{["`+key+`"] = 1}`)
	}
	checkWritten(t, "a['\xc3\xa9']", `a["\195\169"]`)
	checkWritten(t, "a['b\xc3\xa9']", `a["b\195\169"]`)
	checkWritten(t, "a['b\\0']", `a["b\000"]`)
	checkWritten(t, "a[b]", "a[b]")
	checkWritten(t, "a[1]", "a[1]")
	checkWritten(t, "a[('b')]", `a[("b")]`)
	checkWritten(t, "a[b.c][d[1]].e", "a[b.c][d[1]].e")
	checkWritten(t, "a[ [[b]] ]", "a.b")
	checkWritten(t, "a[ [=[]=] ]", `a[""]`)
	checkWritten(t, "(a).b", "(a).b")
	checkWritten(t, "('a').b", `("a").b`)
}

func TestFormatCallsAndTables(t *testing.T) {
	checkWritten(t, "f()", "f()")
	checkWritten(t, "f ( a,b , ( c ) )", "f(a, b, (c))")
	checkWritten(t, "f'a'", `f("a")`)
	checkWritten(t, "f[[a]]", `f("a")`)
	checkWritten(t, "f{}", "f({})")
	checkWritten(t, "f{a}'b'()", `f({a})("b")()`)
	checkWritten(t, "o : m ( )", "o:m()")
	checkWritten(t, "o:m'a':n{b}", `o:m("a"):n({b})`)
	checkWritten(t, "a.b.c:d(e).f", "a.b.c:d(e).f")
	checkWritten(t, "(f)(x)", "(f)(x)")
	checkWritten(t, "{ }", "{}")
	checkWritten(t, "{a;b,c;}", "{a, b, c}")
	checkWritten(t, "{a,[b]=c;d=e,'f'}", `{a, [b] = c, d = e, "f"}`)
	checkWritten(t, "{{},{{}},x={}}", "{{}, {{}}, x = {}}")
	checkWritten(t, "{f(),...}", "{f(), ...}")
}

func TestFormatOperators(t *testing.T) {
	for _, row := range levels() {
		for _, sign := range row {
			checkWritten(t, "a "+sign+"\tb", "a "+sign+" b")
			checkWritten(t, "a "+sign+" b "+sign+" c", "a "+sign+" b "+sign+" c")
			checkWritten(t, "(a "+sign+" b)"+sign+" c", "(a "+sign+" b) "+sign+" c")
			checkWritten(t, "1 "+sign+" - 2.", "1 "+sign+" -2.0")
		}
	}
	checkWritten(t, "1 ..2", "1 .. 2")
	checkWritten(t, "...  .. ...", "... .. ...")
	checkWritten(t, "- a", "-a")
	checkWritten(t, "~ a", "~a")
	checkWritten(t, "# a", "#a")
	checkWritten(t, "not(a)", "not (a)")
	checkWritten(t, "- - a", "- -a")
	checkWritten(t, "-(-a)", "-(-a)")
	checkWritten(t, "- - - 1", "- - -1")
	checkWritten(t, "-~-#-not-a", "-~-#-not -a")
	checkWritten(t, "- -a^- -b", "- -a ^ - -b")
	checkWritten(t, "a- - -b", "a - - -b")
	checkWritten(t, "-0x8000000000000000", "-0x8000000000000000")
	checkWritten(t, "-9223372036854775808", "-9.223372036854776e+18")
	checkWritten(t, "-'-'", `-"-"`)
	checkWritten(t, "~ ~a~ ~b", "~~a ~ ~b")
	checkWritten(t, "##a", "##a")
	checkWritten(t, "not not a", "not not a")
	checkWritten(t, "2^-3^not x", "2 ^ -3 ^ not x")
	checkWritten(t, "((a))", "((a))")
	checkWritten(t, "a+b*c..d", "a + b * c .. d")
	checkWritten(t, "((a)+(b))*(c)", "((a) + (b)) * (c)")
}

func TestFormatStatements(t *testing.T) {
	for source, want := range map[string]string{
		"":                             "",
		" ; ;-- x\n;":                  "",
		"break":                        "break\n",
		"goto x":                       "goto x\n",
		"::  x::":                      "::x::\n",
		"return":                       "return\n",
		"return;":                      "return\n",
		"return a,b;":                  "return a, b\n",
		"return(a)":                    "return (a)\n",
		"local a":                      "local a\n",
		"local a,b":                    "local a, b\n",
		"local a=1":                    "local a = 1\n",
		"local a<const>,b=1,2":         "local a <const>, b = 1, 2\n",
		"local a < close >":            "local a <close>\n",
		"local a,b<close>,c<const> =f": "local a, b <close>, c <const> = f\n",
		"a=1":                          "a = 1\n",
		"a,b.c,d[e]=1,2":               "a, b.c, d[e] = 1, 2\n",
		"f'x'":                         "f(\"x\")\n",
		"o:m()":                        "o:m()\n",
		"a=1;b=2;;f();":                "a = 1\nb = 2\nf()\n",
		"do end":                       "do\nend\n",
		"do;;end":                      "do\nend\n",
		"do a()end":                    "do\n  a()\nend\n",
		"while a do end":               "while a do\nend\n",
		"while a do b()c()end":         "while a do\n  b()\n  c()\nend\n",
		"repeat until a":               "repeat\nuntil a\n",
		"repeat a()until b==c":         "repeat\n  a()\nuntil b == c\n",
		"for i=1,2 do end":             "for i = 1, 2 do\nend\n",
		"for i=1,2,3 do a()end":        "for i = 1, 2, 3 do\n  a()\nend\n",
		"for a in b do end":            "for a in b do\nend\n",
		"for a,b in c,d do e()end":     "for a, b in c, d do\n  e()\nend\n",
		"if a then end":                "if a then\nend\n",
		"if a then b()end":             "if a then\n  b()\nend\n",
		"if a then else end":           "if a then\nelse\nend\n",
		"if a then b()elseif c then d()elseif e then else f()end": "if a then\n  b()\nelseif c then\n  d()\nelseif e then\nelse\n  f()\nend\n",
		"if a then if b then end else end":                        "if a then\n  if b then\n  end\nelse\nend\n",
		"local function f()end":                                   "local function f()\nend\n",
		"local function f(a,b,...)return a end":                   "local function f(a, b, ...)\n  return a\nend\n",
		"local function f(...)end":                                "local function f(...)\nend\n",
		"function f()end":                                         "f = function()\nend\n",
		"function f(a,b)end":                                      "f = function(a, b)\nend\n",
		"function a.b.c(...)end":                                  "a.b.c = function(...)\nend\n",
		"function a.b:c()end":                                     "a.b.c = function(self)\nend\n",
		"function a:b(c,...)return end":                           "a.b = function(self, c, ...)\n  return\nend\n",
	} {
		checkFormat(t, source, want)
	}
}

func TestFormatBlocksInBlocks(t *testing.T) {
	checkFormat(t, "do do do a()end end b()end", "do\n  do\n    do\n      a()\n    end\n  end\n  b()\nend\n")
	checkFormat(t, "while a do for i=1,2 do repeat local x until x if b then break end end end",
		"while a do\n  for i = 1, 2 do\n    repeat\n      local x\n    until x\n    if b then\n      break\n    end\n  end\nend\n")
	checkFormat(t, "if a then do b()end else for c in d do return end end", "if a then\n  do\n    b()\n  end\nelse\n  for c in d do\n    return\n  end\nend\n")
	checkFormat(t, "local function f()local function g()return 1 end end", "local function f()\n  local function g()\n    return 1\n  end\nend\n")
}

func TestFormatFunctionsInExpressions(t *testing.T) {
	checkFormat(t, "a=function()end", "a = function()\nend\n")
	checkFormat(t, "a=function(b,...)c()d()end", "a = function(b, ...)\n  c()\n  d()\nend\n")
	checkFormat(t, "f(function()g()end,1,function()end)", "f(function()\n  g()\nend, 1, function()\nend)\n")
	checkFormat(t, "do f{a=function()g()end,function(x)h()end}end", "do\n  f({a = function()\n    g()\n  end, function(x)\n    h()\n  end})\nend\n")
	checkFormat(t, "return function()return function()return 1 end end", "return function()\n  return function()\n    return 1\n  end\nend\n")
	checkFormat(t, "local a,b=function()x()end,- -function()end", "local a, b = function()\n  x()\nend, - -function()\nend\n")
	checkFormat(t, "do repeat until(function()return a end)()end", "do\n  repeat\n  until (function()\n    return a\n  end)()\nend\n")
	checkFormat(t, "while f(function()a()end)do b()end", "while f(function()\n  a()\nend) do\n  b()\nend\n")
	checkFormat(t, "do if a then elseif f(function()b()end)then c()end end", "do\n  if a then\n  elseif f(function()\n    b()\n  end) then\n    c()\n  end\nend\n")
	checkFormat(t, "for i=f(function()a()end),2 do b()end", "for i = f(function()\n  a()\nend), 2 do\n  b()\nend\n")
	checkFormat(t, "x[function()a()end]=function()end..function()end", "x[function()\n  a()\nend] = function()\nend .. function()\nend\n")
	checkFormat(t, "function a.b()function c:d()e()end end", "a.b = function()\n  c.d = function(self)\n    e()\n  end\nend\n")
}

func TestFormatBeginsWithBracket(t *testing.T) {
	checkFormat(t, "(f)()", ";(f)()\n")
	checkFormat(t, "(f).x=1", ";(f).x = 1\n")
	checkFormat(t, "(f)[1],y=1,2", ";(f)[1], y = 1, 2\n")
	checkFormat(t, "(f):m()", ";(f):m()\n")
	checkFormat(t, "(f)().a.b'c'", ";(f)().a.b(\"c\")\n")
	checkFormat(t, "((f))()", ";((f))()\n")
	checkFormat(t, "y,(f).x=1,2", "y, (f).x = 1, 2\n")
	checkFormat(t, "do (f)() end", "do\n  ;(f)()\nend\n")
	checkFormat(t, "a=b;(f)();(g)()", "a = b\n;(f)()\n;(g)()\n")
	checkFormat(t, "a=b(f)();(g)()", "a = b(f)()\n;(g)()\n")
	checkFormat(t, "local a;(f)()", "local a\n;(f)()\n")
	checkFormat(t, "a=nil (f)()", "a = nil\n;(f)()\n")
	checkFormat(t, "function a()end(f)()", "a = function()\nend\n;(f)()\n")
	checkFormat(t, "x=function()(f)()end", "x = function()\n  ;(f)()\nend\n")
	checkFormat(t, "repeat(f)()until(a)", "repeat\n  ;(f)()\nuntil (a)\n")
	checkFormat(t, "return(f)()", "return (f)()\n")
	checkFormat(t, "if(a)then(b)()end", "if (a) then\n  ;(b)()\nend\n")
	checkFormat(t, "(function()end)()", ";(function()\nend)()\n")
	checkFormat(t, "({}).x=(1)", ";({}).x = (1)\n")
}

func TestFormatTellsFaults(t *testing.T) {
	for _, source := range []string{"x", "x = ", "'a", "@", "3x", "local x <y>", "return 1 2", "if x then", strings.Repeat(" ", impl.MaxSource+1), "x = " + strings.Repeat("-~", 150) + "1"} {
		_, want := impl.Parse(source)
		if text, fault := impl.Format(source); want.Code == 0 || fault != want || text != "" {
			t.Errorf("Format(%q) = %q, %+v, want %+v", source, text, fault, want)
		}
	}
}

// modelWriter writes a tree anew from its flat list, each part as a text of its own.
type modelWriter struct{ nodes []impl.Node }

var patternKey = regexp.MustCompile(`^[A-Za-z_][A-Za-z_0-9]*$`)

func (m modelWriter) list(kids []int, depth int) string {
	var parts []string
	for _, kid := range kids {
		parts = append(parts, m.part(kid, depth))
	}
	return strings.Join(parts, ", ")
}

// name is what a key is written as, if it can be a name.
func (m modelWriter) name(key int) string {
	n := m.nodes[key]
	if n.Kind != impl.NodeString || !patternKey.MatchString(n.Text) || slices.Contains(strings.Fields(theWords), n.Text) {
		return ""
	}
	return n.Text
}

func (m modelWriter) block(at, depth int) string {
	text := ""
	for _, kid := range m.nodes[at].Kids {
		line := m.statement(kid, depth)
		if strings.HasPrefix(line, "(") {
			line = ";" + line
		}
		text += strings.Repeat("  ", depth) + line + "\n"
	}
	return text
}

// body is what stands between the line with which a block is opened and the word that ends it.
func (m modelWriter) body(block, depth int) string {
	return "\n" + m.block(block, depth+1) + strings.Repeat("  ", depth)
}

func (m modelWriter) function(at, depth int) string {
	n := m.nodes[at]
	params := m.list(n.Kids[:n.Int], depth)
	if n.Text != "" {
		params = strings.TrimPrefix(params+", ...", ", ")
	}
	return "(" + params + ")" + m.body(n.Kids[n.Int], depth) + "end"
}

func (m modelWriter) statement(at, depth int) string {
	n := m.nodes[at]
	k, last := n.Kids, len(n.Kids)-1
	switch n.Kind {
	case impl.NodeAssign:
		return m.list(k[:n.Int], depth) + " = " + m.list(k[n.Int:], depth)
	case impl.NodeRun:
		return m.part(k[0], depth)
	case impl.NodeDo:
		return "do" + m.body(k[0], depth) + "end"
	case impl.NodeWhile:
		return "while " + m.part(k[0], depth) + " do" + m.body(k[1], depth) + "end"
	case impl.NodeRepeat:
		return "repeat" + m.body(k[0], depth) + "until " + m.part(k[1], depth)
	case impl.NodeIf:
		text := ""
		for i := 0; i+1 <= last; i += 2 {
			text += "else" + "if " + m.part(k[i], depth) + " then" + m.body(k[i+1], depth)
		}
		if last%2 == 0 {
			text += "else" + m.body(k[last], depth)
		}
		return strings.TrimPrefix(text, "else") + "end"
	case impl.NodeFor:
		return "for " + m.part(k[0], depth) + " = " + m.list(k[1:last], depth) + " do" + m.body(k[last], depth) + "end"
	case impl.NodeIn:
		return "for " + m.list(k[:n.Int], depth) + " in " + m.list(k[n.Int:last], depth) + " do" + m.body(k[last], depth) + "end"
	case impl.NodeLocal:
		return strings.TrimSuffix("local "+m.list(k[:n.Int], depth)+" = "+m.list(k[n.Int:], depth), " = ")
	case impl.NodeLocalFunc:
		return "local function " + m.part(k[0], depth) + m.function(k[1], depth)
	case impl.NodeReturn:
		return strings.TrimSuffix("return "+m.list(k, depth), " ")
	case impl.NodeBreak:
		return "break"
	case impl.NodeGoto:
		return "goto " + n.Text
	}
	return "::" + n.Text + "::"
}

func (m modelWriter) part(at, depth int) string {
	n := m.nodes[at]
	k := n.Kids
	signs := strings.Fields("? + - * / % // ^ & | ~ << >> - ~ .. == ~= < <= > >= not #")
	switch n.Kind {
	case impl.NodeNil, impl.NodeFalse, impl.NodeTrue, impl.NodeDots:
		return map[int]string{1: "nil", 2: "false", 3: "true", 7: "..."}[n.Kind]
	case impl.NodeInt:
		return modelText(impl.Token{Kind: impl.TokInt, Int: n.Int})
	case impl.NodeFloat:
		return modelText(impl.Token{Kind: impl.TokFloat, Bits: n.Bits})
	case impl.NodeString:
		return modelText(impl.Token{Kind: impl.TokString, Text: n.Text})
	case impl.NodeName:
		return n.Text
	case impl.NodeDecl:
		return n.Text + []string{"", " <const>", " <close>"}[n.Int]
	case impl.NodeFunction:
		return "function" + m.function(at, depth)
	case impl.NodeIndex:
		if name := m.name(k[1]); name != "" {
			return m.part(k[0], depth) + "." + name
		}
		return m.part(k[0], depth) + "[" + m.part(k[1], depth) + "]"
	case impl.NodeCall:
		return m.part(k[0], depth) + "(" + m.list(k[1:], depth) + ")"
	case impl.NodeMethod:
		return m.part(k[0], depth) + ":" + n.Text + "(" + m.list(k[1:], depth) + ")"
	case impl.NodeTable:
		return "{" + m.list(k, depth) + "}"
	case impl.NodePair:
		key := m.name(k[0])
		if key == "" {
			key = "[" + m.part(k[0], depth) + "]"
		}
		return key + " = " + m.part(k[1], depth)
	case impl.NodeParen:
		return "(" + m.part(k[0], depth) + ")"
	case impl.NodeAnd:
		return m.part(k[0], depth) + " and " + m.part(k[1], depth)
	case impl.NodeOr:
		return m.part(k[0], depth) + " or " + m.part(k[1], depth)
	case impl.NodeBinary:
		return m.part(k[0], depth) + " " + signs[n.Int] + " " + m.part(k[1], depth)
	case impl.NodeUnary:
		inner := m.part(k[0], depth)
		if n.Int == impl.OpNot || n.Int == impl.NumNeg && inner[0] == '-' {
			inner = " " + inner
		}
		return signs[n.Int] + inner
	}
	return m.part(k[0], depth)
}

func TestFormatOfRandomTexts(t *testing.T) {
	texts, trees := grown(5000)
	for i, source := range texts {
		if depthOf(trees[i]) > impl.MaxDepth || len(source) > impl.MaxSource {
			continue
		}
		m := modelWriter{trees[i].Nodes}
		checkFormat(t, source, m.block(len(m.nodes)-2, 0))
	}
	for _, source := range formsOfGrammar() {
		tree, _ := impl.Parse(source)
		m := modelWriter{tree.Nodes}
		checkFormat(t, source, m.block(len(m.nodes)-2, 0))
	}
}

// Texts of the greatest size, also such that grow beyond it.
func TestFormatOfGreatestTexts(t *testing.T) {
	for _, part := range []string{"f()", "a=b;", "local a ", "::a::", "x=-~#1;", "do end ", ";", "a.b.c=1;"} {
		checkAnew(t, strings.Repeat(part, impl.MaxSource/len(part)))
	}
	for _, part := range []string{"a,", "-1,", "'\\255',", "{},", "function()end,"} {
		list := strings.Repeat(part, (impl.MaxSource-len("return 1"))/len(part))
		checkAnew(t, "return "+list+"1")
	}
	name := strings.Repeat("a", impl.MaxSource-len("=0"))
	checkFormat(t, name+"=0", name+" = 0\n")
}

func TestFormatOfManyLinesInManyBlocks(t *testing.T) {
	const blocks, calls = 90, 10000
	source := strings.Repeat("do ", blocks) + strings.Repeat("f()", calls) + strings.Repeat("end ", blocks)
	var want strings.Builder
	for depth := range blocks {
		want.WriteString(strings.Repeat("  ", depth) + "do\n")
	}
	want.WriteString(strings.Repeat(strings.Repeat("  ", blocks)+"f()\n", calls))
	for depth := range blocks {
		want.WriteString(strings.Repeat("  ", blocks-1-depth) + "end\n")
	}
	if text := checkAnew(t, source); text != want.String() {
		t.Errorf("%d calls in %d blocks are written in %d bytes, want %d", calls, blocks, len(text), want.Len())
	}
}
