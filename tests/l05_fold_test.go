package tests

import (
	"fmt"
	"slices"
	"strings"
	"testing"

	"loop.example/g00002/impl"
)

// P7, what is of trees: just the nodes that chapter 6 lists are replaced, each by what it says.

// checkFold holds the whole folded list of a text against one told line by line.
func checkFold(t *testing.T, source, want string) {
	t.Helper()
	tree, fault := impl.Fold(source)
	if fault != (impl.Fault{}) || treeText(tree) != bare(want) {
		t.Errorf("Fold(%q) tells %+v and has the nodes\n%s\nwant\n%s", source, fault, treeText(tree), bare(want))
	}
	checkShorterText(t, source)
}

// checkFolded looks at the folded nodes of an expression; lines and places count from where it begins.
func checkFolded(t *testing.T, expression, want string) {
	t.Helper()
	const ahead = "\nreturn "
	tree, fault := impl.Fold(ahead + expression)
	if fault != (impl.Fault{}) {
		t.Errorf("%q has the fault %+v", expression, fault)
		return
	}
	last := len(tree.Nodes) - 3
	root := fmt.Sprintf("Return 2:1 [%d]\nBlock 2:1 [%d]\nFunction 2:1 \"...\" [%d]", last-1, last, last+1)
	if got := treeText(impl.Tree{Nodes: tree.Nodes[last:]}); got != root {
		t.Errorf("around %q are the nodes\n%s\nwant\n%s", expression, got, root)
	}
	for i := range last {
		tree.Nodes[i].Line--
		tree.Nodes[i].At -= len(ahead)
	}
	if got := treeText(impl.Tree{Nodes: tree.Nodes[:last]}); got != bare(want) {
		t.Errorf("%q is folded to\n%s\nwant\n%s", expression, got, bare(want))
	}
}

// checkAsParsed looks that nothing of a text is folded.
func checkAsParsed(t *testing.T, sources ...string) {
	t.Helper()
	for _, source := range sources {
		tree, fault := impl.Parse(source)
		if fault.Code != 0 {
			t.Errorf("%q has the fault %+v", source, fault)
		}
		checkFold(t, source, treeText(tree))
	}
}

// checkKept looks that nothing of an expression is folded.
func checkKept(t *testing.T, expressions ...string) {
	t.Helper()
	for _, expression := range expressions {
		checkAsParsed(t, "return "+expression, "x = "+expression, "f(a, "+expression+")", "local x = {["+expression+"] = "+expression+"}")
	}
}

// checkNumber looks that an expression is folded to one number, told as FormatNumber tells it, at the mark !, which isn't of
// the expression.
func checkNumber(t *testing.T, marked, number string) {
	t.Helper()
	at := strings.Index(marked, "!")
	source := "return " + marked[:at] + marked[at+1:]
	tree, fault := impl.Fold(source)
	if fault.Code != 0 || len(tree.Nodes) != 4 {
		t.Errorf("Fold(%q) tells %+v and has the nodes\n%s", source, fault, treeText(tree))
		return
	}
	n := tree.Nodes[0]
	place := impl.Node{Kind: n.Kind, Line: 1 + strings.Count(marked[:at], "\n"), At: len("return ") + at, Int: n.Int, Bits: n.Bits}
	isFloat := n.Kind == impl.NodeFloat
	if nodeText(n) != nodeText(place) || !isFloat && n.Kind != impl.NodeInt || isFloat && n.Int != 0 || !isFloat && n.Bits != 0 {
		t.Errorf("Fold(%q) begins with %s", source, nodeText(n))
	}
	if got := impl.FormatNumber(impl.Number{IsFloat: isFloat, Int: n.Int, Bits: n.Bits}); got != number {
		t.Errorf("%q is folded to %s, want %s", source, got, number)
	}
}

func TestFoldNothing(t *testing.T) {
	checkFold(t, "", "Block 1:0\nFunction 1:0 \"...\" [0]")
	checkAsParsed(t, "x = 1", "x = y", "f(1, 1.5, 'a', nil, true, ...)", "local a <const>, b = 1, 2", "for i = 1, 2, 3 do end", "return function(a, ...) return a end",
		"a.b[1], c = {1, x = 2, [3] = 4}, o:m(5)", "if 1 then elseif nil then else end", "while true do break end", "repeat until false", "goto a ::a::", "local function f() end")
}

func TestFoldParentheses(t *testing.T) {
	checkFolded(t, "(1)", "Int 1:0 1")
	checkFolded(t, "( 1.5 )", "Float 1:0 0x3ff8000000000000")
	checkFolded(t, "((\n(7)))", "Int 1:0 7")
	checkFolded(t, "(0)", "Int 1:0")
	checkFolded(t, "(0.0)", "Float 1:0")
	checkFolded(t, "(0xffffffffffffffff)", "Int 1:0 -1")
	checkFolded(t, "(2).x", "Int 1:0 2\nString 1:4 \"x\"\nIndex 1:3 [0 1]")
	checkFolded(t, "(2)(3)", "Int 1:0 2\nInt 1:4 3\nCall 1:3 [0 1]")
	checkFolded(t, "(2):m()", "Int 1:0 2\nMethod 1:3 \"m\" [0]")
	checkKept(t, "(nil)", "(false)", "(true)", "('a')", "('1')", "(...)", "(a)", "(f())", "({})", "(function() end)", "((a))", "(a.b)", "(1 < 2)", "(-a)", "(a and 1)", "('a' .. 1)", "(#a)",
		"(not a)", "((nil))", "(('a'))")
}

func TestFoldOperationsOnTwo(t *testing.T) {
	for marked, number := range map[string]string{
		"7 !+ 2": "9", "7 !+ 2.5": "9.5", "7.5 !+ 2": "9.5", "0.5 !+ 0.25": "0.75", "9223372036854775807 !+ 1": "-9223372036854775808", "1.0 !+ 1": "2.0",
		"7 !- 2": "5", "2 !- 7": "-5", "7 !- 2.5": "4.5", "2.5 !- 7": "-4.5", "1.5 !- 1.5": "0.0", "0x8000000000000000 !- 1": "9223372036854775807",
		"7 !* 2": "14", "7 !* 0.5": "3.5", "0.5 !* 7": "3.5", "1e10 !* 1e10": "1e+20", "0x7fffffffffffffff !* 2": "-2", "0 !* 1.5": "0.0",
		"7 !/ 2": "3.5", "6 !/ 2": "3.0", "1.5 !/ 0.5": "3.0", "1 !/ 2.0": "0.5", "0 !/ 5": "0.0", "1.0 !/ 4": "0.25",
		"7 !% 3": "1", "0xfffffffffffffff9 !% 3": "2", "7 !% 0xfffffffffffffffd": "-2", "7.5 !% 2": "1.5", "7 !% 2.5": "2.0", "5.5 !% 5.5": "0.0",
		"7 !// 2": "3", "0xfffffffffffffff9 !// 2": "-4", "7.5 !// 2": "3.0", "7 !// 2.0": "3.0", "7.5 !// 0.5": "15.0", "0x8000000000000000 !// 0xffffffffffffffff": "-9223372036854775808",
		"2 !^ 10": "1024.0", "2.0 !^ 3": "8.0", "9 !^ 2.0": "81.0", "0.5 !^ 2.0": "0.25", "0 !^ 0": "1.0", "2 !^ 0xffffffffffffffff": "0.5",
		"6 !& 3": "2", "6.0 !& 3": "2", "6 !& 3.0": "2", "6.0 !& 3.0": "2", "6 !| 3": "7", "6.0 !| 3": "7", "6 !| 3.0": "7", "6 !~ 3": "5", "6.0 !~ 3.0": "5", "5 !~ 5": "0",
		"1 !<< 4": "16", "1.0 !<< 4.0": "16", "1 !<< 64": "0", "16 !<< 0xffffffffffffffff": "8", "16 !>> 2": "4", "16.0 !>> 2": "4", "0xffffffffffffffff !>> 1": "9223372036854775807", "1 !>> 0xfffffffffffffffe": "4",
		"1\n\n!+ 2": "3", "1 --[[\n]] !*\n2": "2",
	} {
		checkNumber(t, marked, number)
	}
}

func TestFoldOperationsOnOne(t *testing.T) {
	for marked, number := range map[string]string{
		"!-1": "-1", "!- 1": "-1", "!-0": "0", "!-1.5": "-1.5", "!-0x8000000000000000": "-9223372036854775808", "!-9223372036854775807": "-9223372036854775807", "!-9223372036854775808": "-9.223372036854776e+18",
		"!-0xffffffffffffffff": "1", "!- -1": "1", "!- - -1.5": "-1.5", "\n!-\n7": "-7",
		"!~0": "-1", "!~1": "-2", "!~7.0": "-8", "!~0xffffffffffffffff": "0", "!~~5": "5", "!-~5": "6", "!~-5": "4", "!~9007199254740992.0": "-9007199254740993",
	} {
		checkNumber(t, marked, number)
	}
}

func TestFoldNot(t *testing.T) {
	for _, operand := range []string{"nil", "false"} {
		checkFolded(t, "not "+operand, "True 1:0")
	}
	for _, operand := range []string{"true", "0", "1", "0.0", "1.5", "''", "'a'", "[[false]]", "0xffffffffffffffff"} {
		checkFolded(t, "not "+operand, "False 1:0")
	}
	checkFolded(t, "\n  not\nnil", "True 2:3")
	checkFolded(t, "not not nil", "False 1:0")
	checkFolded(t, "not not 1", "True 1:0")
	checkFolded(t, "not not not 'a'", "False 1:0")
	checkFolded(t, "not -1", "False 1:0")
	checkFolded(t, "not (1)", "False 1:0")
	checkFolded(t, "not (1 + 2)", "False 1:0")
	checkFolded(t, "not 2 ^ 2", "False 1:0")
	checkKept(t, "not a", "not ...", "not {}", "not function() end", "not f()", "not (nil)", "not ('a')", "not (true)", "not a.b", "not (a)", "not ('a' .. 'b')", "not #'a'", "not -'a'", "not -nil", "not (1 < 2)",
		"not o:m()", "not -0.0", "not (nil and 1)")
}

func TestFoldNumbersThatAreKept(t *testing.T) {
	checkKept(t, "1 // 0", "1 % 0", "0 // 0", "0 % 0", "0x8000000000000000 // 0")                                                                     // NumZero
	checkKept(t, "2 ^ 0.5", "2 ^ 1024", "2 ^ 1e300", "2.5 ^ 1.5", "2 ^ 9223372036854775807")                                                          // NumRange
	checkKept(t, "1 & 0.5", "0.5 | 1", "1.5 ~ 1.5", "1 << 0.5", "1e300 >> 1", "~0.5", "~1e19")                                                        // NumWhole
	checkKept(t, "0 / 0", "0.0 / 0", "0.0 % 0", "1.5 % 0", "1 % 0.0", "0 % 0.0", "0.0 // 0.0")                                                        // nan
	checkKept(t, "1 / 0", "1.5 / 0.0", "1e308 * 10", "1e308 + 1e308", "10 ^ 400", "1 // 0.0", "1e200 ^ 2")                                            // inf
	checkKept(t, "0xffffffffffffffff / 0", "0xffffffffffffffff // 0.0", "0xffffffffffffffff / 0.0", "0xfffffffffffffff0 ^ 1001")                      // -inf
	checkKept(t, "-0.0", "0xffffffffffffffff * 0.0", "0.0 * 0xffffffffffffffff", "0 / 0xffffffffffffffff", "0.0 / 0xffffffffffffffff", "-.0", "-0e5") // -0.0
}

func TestFoldWhatIsNoNumber(t *testing.T) {
	for _, sign := range []string{"+", "-", "*", "/", "%", "//", "^", "&", "|", "~", "<<", ">>"} {
		checkKept(t, "a "+sign+" 1", "1 "+sign+" a", "'1' "+sign+" 2", "2 "+sign+" '1'", "nil "+sign+" 1", "1 "+sign+" true", "... "+sign+" 1", "1 "+sign+" {}", "1 "+sign+" #a", "f() "+sign+" 1", "1 "+sign+" (a)",
			"1 "+sign+" (1 < 2)", "1 "+sign+" function() end")
	}
	for _, sign := range []string{"<", ">", "<=", ">=", "~=", "==", ".."} {
		checkKept(t, "1 "+sign+" 2", "1.5 "+sign+" 2", "2 "+sign+" 2.0", "'a' "+sign+" 'b'", "nil "+sign+" nil", "a "+sign+" 1")
	}
	checkKept(t, "1 and 2", "nil or 1", "false and true", "1 or 2 and 3", "-a", "~a", "-'1'", "~'1'", "-nil", "~true", "#'a'", "#a", "- -a", "-~a", "-(a)", "-#a", "-{}", "~f()", "#{1, 2}")
}

// Folding inside of what isn't folded itself, and what one fold makes possible.
func TestFoldInside(t *testing.T) {
	checkFolded(t, "a + 1 * 2", "Name 1:0 \"a\"\nInt 1:6 2\nBinary 1:2 1 [0 1]")
	checkFolded(t, "1 + 2 + a", "Int 1:2 3\nName 1:8 \"a\"\nBinary 1:6 1 [0 1]")
	checkFolded(t, "a + 1 + 2", "Name 1:0 \"a\"\nInt 1:4 1\nBinary 1:2 1 [0 1]\nInt 1:8 2\nBinary 1:6 1 [2 3]")
	checkFolded(t, "1 + 1 < 2 * 3", "Int 1:2 2\nInt 1:10 6\nBinary 1:6 18 [0 1]")
	checkFolded(t, "(1 // 0) + (2)", "Int 1:1 1\nInt 1:6\nBinary 1:3 6 [0 1]\nParen 1:0 [2]\nInt 1:11 2\nBinary 1:9 1 [3 4]")
	checkFolded(t, "1 + 2 // 0", "Int 1:0 1\nInt 1:4 2\nInt 1:9\nBinary 1:6 6 [1 2]\nBinary 1:2 1 [0 3]")
	checkFolded(t, "- -0.0", "Float 1:3\nUnary 1:2 13 [0]\nUnary 1:0 13 [1]")
	checkFolded(t, "-(-0.0)", "Float 1:3\nUnary 1:2 13 [0]\nParen 1:1 [1]\nUnary 1:0 13 [2]")
	checkFolded(t, "not (1 / 0)", "Int 1:5 1\nInt 1:9\nBinary 1:7 4 [0 1]\nParen 1:4 [2]\nUnary 1:0 22 [3]")
	checkFolded(t, "(2 + 1) .. -(3)", "Int 1:0 3\nInt 1:11 -3\nBinary 1:8 15 [0 1]")
	checkFolded(t, "1 + 1 and -1 or not nil", "Int 1:2 2\nInt 1:10 -1\nAnd 1:6 [0 1]\nTrue 1:16\nOr 1:13 [2 3]")
	checkFolded(t, "{-1, [1 + 1] = (2), x = not 1}", "Int 1:1 -1\nItem 1:1 [0]\nInt 1:8 2\nInt 1:15 2\nPair 1:5 [2 3]\nString 1:20 \"x\"\nFalse 1:24\nPair 1:20 [5 6]\nTable 1:0 [1 4 7]")
	checkFolded(t, "a[1 + 1].b(-2, (3)):c(~4)", "Name 1:0 \"a\"\nInt 1:4 2\nIndex 1:1 [0 1]\nString 1:9 \"b\"\nIndex 1:8 [2 3]\nInt 1:11 -2\nInt 1:15 3\nCall 1:10 [4 5 6]\nInt 1:22 -5\nMethod 1:19 \"c\" [7 8]")
	checkFolded(t, "function(a) return -1 end", "Decl 1:9 \"a\"\nInt 1:19 -1\nReturn 1:12 [1]\nBlock 1:12 [2]\nFunction 1:0 1 [0 3]")
	checkFolded(t, "-2 ^ 2", "Float 1:0 0xc010000000000000")
	checkFolded(t, "2 ^ -1", "Float 1:2 0x3fe0000000000000")
	checkNumber(t, "1 + 2 * 3 !- 4 // (3 - 1)", "5")
	checkNumber(t, "(1 + 2) !* (3 + 4)", "21")
	checkNumber(t, "((1) + (2)) !* -(3)", "-9")
	checkNumber(t, "2 !^ 3 ^ 2", "512.0")
	checkNumber(t, "!-(-(-(1)))", "-1")
	checkNumber(t, "1 << 2 + 1 !| ~0 & 1", "9")
	checkNumber(t, "1 - 1 - 1 !- 1", "-2")
	checkNumber(t, "!("+strings.Repeat("(", 100)+"5"+strings.Repeat(")", 101), "5")
}

func TestFoldInStatements(t *testing.T) {
	checkFold(t, "local a <const>, b = 1 + 1, (2)", `
		Decl 1:6 1 "a"
		Decl 1:17 "b"
		Int 1:23 2
		Int 1:28 2
		Local 1:0 2 [0 1 2 3]
		Block 1:0 [4]
		Function 1:0 "..." [5]`)
	checkFold(t, "a[-1], b = 2\n*3, c", `
		Name 1:0 "a"
		Int 1:2 -1
		Index 1:1 [0 1]
		Name 1:7 "b"
		Int 2:13 6
		Name 2:17 "c"
		Assign 1:0 2 [2 3 4 5]
		Block 1:0 [6]
		Function 1:0 "..." [7]`)
	checkFold(t, "for i = -1, (2), 1 + 1 do f(-3) end", `
		Decl 1:4 "i"
		Int 1:8 -1
		Int 1:12 2
		Int 1:19 2
		Name 1:26 "f"
		Int 1:28 -3
		Call 1:27 [4 5]
		Run 1:26 [6]
		Block 1:26 [7]
		For 1:0 1 [0 1 2 3 8]
		Block 1:0 [9]
		Function 1:0 "..." [10]`)
	checkFold(t, "while not nil do repeat until not 1 end", `
		True 1:6
		Block 1:24
		False 1:30
		Repeat 1:17 [1 2]
		Block 1:17 [3]
		While 1:0 [0 4]
		Block 1:0 [5]
		Function 1:0 "..." [6]`)
	checkFold(t, "if not 1 then return -1 elseif (2) then do return 1 + 1, ~0 end else for a, b in -(3) do end end", `
		False 1:3
		Int 1:21 -1
		Return 1:14 [1]
		Block 1:14 [2]
		Int 1:31 2
		Int 1:52 2
		Int 1:57 -1
		Return 1:43 [5 6]
		Block 1:43 [7]
		Do 1:40 [8]
		Block 1:40 [9]
		Decl 1:73 "a"
		Decl 1:76 "b"
		Int 1:81 -3
		Block 1:89
		In 1:69 2 [11 12 13 14]
		Block 1:69 [15]
		If 1:0 [0 3 4 10 16]
		Block 1:0 [17]
		Function 1:0 "..." [18]`)
	checkFold(t, "local function f() return (1) end function a:b() goto c ::c:: x = -1 end", `
		Decl 1:15 "f"
		Int 1:26 1
		Return 1:19 [1]
		Block 1:19 [2]
		Function 1:6 [3]
		LocalFunc 1:0 [0 4]
		Name 1:43 "a"
		String 1:45 "b"
		Index 1:44 [6 7]
		Decl 1:46 "self"
		Goto 1:49 "c"
		Label 1:56 "c"
		Name 1:62 "x"
		Int 1:66 -1
		Assign 1:62 1 [12 13]
		Block 1:49 [10 11 14]
		Function 1:34 1 [9 15]
		Assign 1:34 1 [8 16]
		Block 1:0 [5 17]
		Function 1:0 "..." [18]`)
	checkFold(t, "(1).x = 2 ;(3)()", `
		Int 1:0 1
		String 1:4 "x"
		Index 1:3 [0 1]
		Int 1:8 2
		Assign 1:0 1 [2 3]
		Int 1:11 3
		Call 1:14 [5]
		Run 1:11 [6]
		Block 1:0 [4 7]
		Function 1:0 "..." [8]`)
}

// Parse's fault goes through; those of chapter 5 don't matter here.
func TestFoldTellsFaults(t *testing.T) {
	check := func(source string) {
		t.Helper()
		_, want := impl.Parse(source)
		tree, fault := impl.Fold(source)
		if fault != want || want.Code != 0 && len(tree.Nodes) != 0 {
			t.Errorf("Fold(%.200q) = %d nodes, %+v, want %+v", source, len(tree.Nodes), fault, want)
		}
	}
	codes := map[int]int{}
	sources := append(randomTexts(4000, 8), "x = 1"+strings.Repeat(" ", impl.MaxSource), "x = "+strings.Repeat("(", 197)+"1"+strings.Repeat(")", 197), "local x <y> = 1 + 1", "x = 1 + ")
	for _, source := range sources {
		_, fault := impl.Parse(source)
		codes[fault.Code]++
		check(source)
	}
	for code := impl.FaultLarge; code <= impl.FaultAttrib; code++ {
		if codes[code] == 0 {
			t.Errorf("there is no text with the fault %d", code)
		}
	}
	for _, n := range nestings() {
		check(n.text(300, 0))
		check(n.text(1, 300))
	}
	checkAsParsed(t, "break", "goto a", "::a:: ::a::", "local x <const> = 1 x = 2", "function f() return ... end", "local "+named("v", 181))
}

func TestFoldOfRandomBytes(t *testing.T) {
	row := words(20000)
	for i := range 2000 {
		var source []byte
		for _, word := range row[10*i : 10*i+1+i%10] {
			for shift := range 8 {
				source = append(source, byte(word>>(8*shift)))
			}
		}
		_, want := impl.Parse(string(source))
		if tree, fault := impl.Fold(string(source)); fault != want || want.Code != 0 && len(tree.Nodes) != 0 {
			t.Errorf("Fold(%q) tells %+v, want %+v", source, fault, want)
		}
	}
}

func TestFoldOfGreatestTexts(t *testing.T) {
	for _, each := range []string{"x=1+1 ", "x=-(1) ", "f(2^.5)", "x={1,-1,(1)} ", "x=not 1 ", "x=1 "} {
		source := strings.Repeat(each, impl.MaxSource/len(each))
		source += strings.Repeat(" ", impl.MaxSource-len(source))
		checkFoldByModel(t, source)
		_, fault := impl.Fold(source + " ")
		if fault != (impl.Fault{Code: impl.FaultLarge, Line: 1}) {
			t.Errorf("Fold of one byte too many tells %+v", fault)
		}
	}
	checkNumber(t, "1"+strings.Repeat(" + 1", 195)+" !+ 1", "197")
}

func TestFoldSharesNothing(t *testing.T) {
	const source = "local a <const>, b = {1 + 1, x = -2, [(3)] = 4}, function(p, ...) return p + 1, not nil end a.b, c[1] = f(1, 2), o:m(-3) if a then elseif b then else end"
	tree, _ := impl.Fold(source)
	want := treeText(tree)
	for i, list := range kidsOf(tree) {
		list = list[:cap(list)]
		for j := range list {
			list[j] = -1000*i - j - 1
		}
	}
	for i, list := range kidsOf(tree) {
		for j, kid := range list[:cap(list)] {
			if kid != -1000*i-j-1 {
				t.Fatalf("the kids of node %d share memory with others", i)
			}
		}
	}
	clear(tree.Nodes[:cap(tree.Nodes)])
	again, _ := impl.Fold(source)
	if treeText(again) != want {
		t.Errorf("writing into one answer changes the next")
	}
	third, _ := impl.Fold(source)
	for i := range again.Nodes {
		again.Nodes[i].Text = "changed"
		slices.Reverse(again.Nodes[i].Kids)
	}
	if treeText(third) != want {
		t.Errorf("two answers share memory")
	}
}
