package tests

import (
	"fmt"
	"slices"
	"strings"
	"testing"

	"loop.example/g00002/impl"
)

// Trees: for each row of the table of chapter 4 the whole list of nodes.

// kindNames are the kinds of nodes by their numbers.
var kindNames = map[int]string{1: "Nil", 2: "False", 3: "True", 4: "Int", 5: "Float", 6: "String", 7: "Dots", 8: "Function", 9: "Name",
	10: "Index", 11: "Call", 12: "Method", 13: "Table", 14: "Binary", 15: "Unary", 16: "Paren", 17: "And", 18: "Or", 19: "Item",
	20: "Pair", 21: "Decl", 30: "Block", 31: "Assign", 32: "Run", 33: "Do", 34: "While", 35: "Repeat", 36: "If", 37: "For",
	38: "In", 39: "Local", 40: "LocalFunc", 41: "Return", 42: "Break", 43: "Goto", 44: "Label"}

// nodeText tells all of a node: kind, line and place, then Int, Text, Bits and Kids unless they are zero.
func nodeText(n impl.Node) string {
	text := fmt.Sprintf("%s %d:%d", kindNames[n.Kind], n.Line, n.At)
	if n.Int != 0 {
		text += fmt.Sprintf(" %d", n.Int)
	}
	if n.Text != "" {
		text += fmt.Sprintf(" %q", n.Text)
	}
	if n.Bits != 0 {
		text += fmt.Sprintf(" %#x", n.Bits)
	}
	if len(n.Kids) > 0 {
		text += fmt.Sprintf(" %v", n.Kids)
	}
	return text
}

func treeText(tree impl.Tree) string {
	var lines []string
	for _, n := range tree.Nodes {
		lines = append(lines, nodeText(n))
	}
	return strings.Join(lines, "\n")
}

// bare is a text of several lines without the blanks around them.
func bare(text string) string {
	lines := strings.Split(strings.TrimSpace(text), "\n")
	for i := range lines {
		lines[i] = strings.TrimSpace(lines[i])
	}
	return strings.Join(lines, "\n")
}

// checkNodes holds the list of nodes of a text against one told line by line.
func checkNodes(t *testing.T, source, want string) {
	t.Helper()
	tree, fault := impl.Parse(source)
	if fault != (impl.Fault{}) {
		t.Errorf("Parse(%q) tells %+v", source, fault)
		return
	}
	if got := treeText(tree); got != bare(want) {
		t.Errorf("Parse(%q) has the nodes\n%s\nwant\n%s", source, got, bare(want))
	}
	checkShorterText(t, source)
}

// checkValue looks at the nodes of an expression; lines and places count from where it begins.
func checkValue(t *testing.T, expression, want string) {
	t.Helper()
	const ahead = "\nreturn "
	tree, fault := impl.Parse(ahead + expression)
	if fault != (impl.Fault{}) {
		t.Errorf("%q has the fault %+v", expression, fault)
		return
	}
	last := len(tree.Nodes) - 3
	root := fmt.Sprintf("Return 2:1 [%d]\nBlock 2:1 [%d]\nFunction 2:1 \"...\" [%d]", last-1, last, last+1)
	if got := treeText(impl.Tree{Nodes: tree.Nodes[last:]}); got != root {
		t.Errorf("around %q are the nodes\n%s\nwant\n%s", expression, got, root)
	}
	for i := range last {
		tree.Nodes[i].Line--
		tree.Nodes[i].At -= len(ahead)
	}
	if got := treeText(impl.Tree{Nodes: tree.Nodes[:last]}); got != bare(want) {
		t.Errorf("%q has the nodes\n%s\nwant\n%s", expression, got, bare(want))
	}
}

func TestParseNothing(t *testing.T) {
	checkNodes(t, "", "Block 1:0\nFunction 1:0 \"...\" [0]")
	checkNodes(t, "  ", "Block 1:2\nFunction 1:2 \"...\" [0]")
	checkNodes(t, " -- a\n\n --[[ b\n]] \t", "Block 4:19\nFunction 4:19 \"...\" [0]")
	checkNodes(t, "-- a", "Block 1:4\nFunction 1:4 \"...\" [0]")
	checkNodes(t, "\n;", "Block 2:1\nFunction 2:1 \"...\" [0]")
	checkNodes(t, " ; ;\n;;", "Block 1:1\nFunction 1:1 \"...\" [0]")
}

func TestParseKindNumbers(t *testing.T) {
	kinds := []int{impl.NodeNil, impl.NodeFalse, impl.NodeTrue, impl.NodeInt, impl.NodeFloat, impl.NodeString, impl.NodeDots, impl.NodeFunction, impl.NodeName,
		impl.NodeIndex, impl.NodeCall, impl.NodeMethod, impl.NodeTable, impl.NodeBinary, impl.NodeUnary, impl.NodeParen, impl.NodeAnd, impl.NodeOr, impl.NodeItem, impl.NodePair, impl.NodeDecl}
	for i, kind := range kinds {
		if kind != i+1 {
			t.Errorf("kind %d has the number %d", i+1, kind)
		}
	}
	statements := []int{impl.NodeBlock, impl.NodeAssign, impl.NodeRun, impl.NodeDo, impl.NodeWhile, impl.NodeRepeat, impl.NodeIf, impl.NodeFor,
		impl.NodeIn, impl.NodeLocal, impl.NodeLocalFunc, impl.NodeReturn, impl.NodeBreak, impl.NodeGoto, impl.NodeLabel}
	for i, kind := range statements {
		if kind != 30+i {
			t.Errorf("kind %d has the number %d", 30+i, kind)
		}
	}
	operators := []int{impl.OpConcat, impl.OpEq, impl.OpNe, impl.OpLt, impl.OpLe, impl.OpGt, impl.OpGe, impl.OpNot, impl.OpLen}
	for i, op := range operators {
		if op != 15+i {
			t.Errorf("operator %d has the number %d", 15+i, op)
		}
	}
	if impl.MaxDepth != 200 {
		t.Errorf("MaxDepth is %d", impl.MaxDepth)
	}
}

func TestParseSimples(t *testing.T) {
	checkValue(t, "nil", "Nil 1:0")
	checkValue(t, "false", "False 1:0")
	checkValue(t, "true", "True 1:0")
	checkValue(t, "...", "Dots 1:0")
	checkValue(t, "0", "Int 1:0")
	checkValue(t, "42", "Int 1:0 42")
	checkValue(t, "0x10", "Int 1:0 16")
	checkValue(t, "0xffffffffffffffff", "Int 1:0 -1")
	checkValue(t, "9223372036854775807", "Int 1:0 9223372036854775807")
	checkValue(t, "9223372036854775808", "Float 1:0 0x43e0000000000000")
	checkValue(t, "1.5", "Float 1:0 0x3ff8000000000000")
	checkValue(t, "0.0", "Float 1:0")
	checkValue(t, "'a\\0b'", `String 1:0 "a\x00b"`)
	checkValue(t, "''", "String 1:0")
	checkValue(t, "[[\nx]]", `String 1:0 "x"`)
	checkValue(t, "'('", `String 1:0 "("`)
	checkValue(t, "'nil'", `String 1:0 "nil"`)
	checkValue(t, "x", `Name 1:0 "x"`)
	checkValue(t, "(x)", "Name 1:1 \"x\"\nParen 1:0 [0]")
	checkValue(t, "((1))", "Int 1:2 1\nParen 1:1 [0]\nParen 1:0 [1]")
	checkValue(t, "( ... )", "Dots 1:2\nParen 1:0 [0]")
}

func TestParseFunctions(t *testing.T) {
	checkValue(t, "function() end", "Block 1:11\nFunction 1:0 [0]")
	checkValue(t, "function(...) end", "Block 1:14\nFunction 1:0 \"...\" [0]")
	checkValue(t, "function(a) end", "Decl 1:9 \"a\"\nBlock 1:12\nFunction 1:0 1 [0 1]")
	checkValue(t, "function(a,b, c) end", "Decl 1:9 \"a\"\nDecl 1:11 \"b\"\nDecl 1:14 \"c\"\nBlock 1:17\nFunction 1:0 3 [0 1 2 3]")
	checkValue(t, "function(a, ...) end", "Decl 1:9 \"a\"\nBlock 1:17\nFunction 1:0 1 \"...\" [0 1]")
	checkValue(t, "function() return ... end", "Dots 1:18\nReturn 1:11 [0]\nBlock 1:11 [1]\nFunction 1:0 [2]")
	checkValue(t, "function() ; end", "Block 1:11\nFunction 1:0 [0]")
	checkValue(t, "function() break end", "Break 1:11\nBlock 1:11 [0]\nFunction 1:0 [1]")
	checkValue(t, "function(a)return function()end end", `Decl 1:9 "a"
		Block 1:28
		Function 1:18 [1]
		Return 1:11 [2]
		Block 1:11 [3]
		Function 1:0 1 [0 4]`)
}

func TestParseSuffixes(t *testing.T) {
	checkValue(t, "a.b", "Name 1:0 \"a\"\nString 1:2 \"b\"\nIndex 1:1 [0 1]")
	checkValue(t, "a . b .c", "Name 1:0 \"a\"\nString 1:4 \"b\"\nIndex 1:2 [0 1]\nString 1:7 \"c\"\nIndex 1:6 [2 3]")
	checkValue(t, "a[1]", "Name 1:0 \"a\"\nInt 1:2 1\nIndex 1:1 [0 1]")
	checkValue(t, "a['b'][c]", "Name 1:0 \"a\"\nString 1:2 \"b\"\nIndex 1:1 [0 1]\nName 1:7 \"c\"\nIndex 1:6 [2 3]")
	checkValue(t, "(a).b", "Name 1:1 \"a\"\nParen 1:0 [0]\nString 1:4 \"b\"\nIndex 1:3 [1 2]")
	checkValue(t, "f()", "Name 1:0 \"f\"\nCall 1:1 [0]")
	checkValue(t, "f ( 1, x )", "Name 1:0 \"f\"\nInt 1:4 1\nName 1:7 \"x\"\nCall 1:2 [0 1 2]")
	checkValue(t, "f'a'", "Name 1:0 \"f\"\nString 1:1 \"a\"\nCall 1:1 [0 1]")
	checkValue(t, "f [=[a]=]", "Name 1:0 \"f\"\nString 1:2 \"a\"\nCall 1:2 [0 1]")
	checkValue(t, "f{}", "Name 1:0 \"f\"\nTable 1:1\nCall 1:1 [0 1]")
	checkValue(t, "f{}''()", `Name 1:0 "f"
		Table 1:1
		Call 1:1 [0 1]
		String 1:3
		Call 1:3 [2 3]
		Call 1:5 [4]`)
	checkValue(t, "o:m()", "Name 1:0 \"o\"\nMethod 1:1 \"m\" [0]")
	checkValue(t, "o:m(1, 2)", "Name 1:0 \"o\"\nInt 1:4 1\nInt 1:7 2\nMethod 1:1 \"m\" [0 1 2]")
	checkValue(t, "o:m'a'", "Name 1:0 \"o\"\nString 1:3 \"a\"\nMethod 1:1 \"m\" [0 1]")
	checkValue(t, "o:m{}", "Name 1:0 \"o\"\nTable 1:3\nMethod 1:1 \"m\" [0 1]")
	checkValue(t, "a.b:c(d)[1].e''", `Name 1:0 "a"
		String 1:2 "b"
		Index 1:1 [0 1]
		Name 1:6 "d"
		Method 1:3 "c" [2 3]
		Int 1:9 1
		Index 1:8 [4 5]
		String 1:12 "e"
		Index 1:11 [6 7]
		String 1:13
		Call 1:13 [8 9]`)
	checkValue(t, "f(g(x),(y))", `Name 1:0 "f"
		Name 1:2 "g"
		Name 1:4 "x"
		Call 1:3 [1 2]
		Name 1:8 "y"
		Paren 1:7 [4]
		Call 1:1 [0 3 5]`)
}

func TestParseTables(t *testing.T) {
	checkValue(t, "{}", "Table 1:0")
	checkValue(t, "{1}", "Int 1:1 1\nItem 1:1 [0]\nTable 1:0 [1]")
	checkValue(t, "{1,}", "Int 1:1 1\nItem 1:1 [0]\nTable 1:0 [1]")
	checkValue(t, "{1;}", "Int 1:1 1\nItem 1:1 [0]\nTable 1:0 [1]")
	checkValue(t, "{a}", "Name 1:1 \"a\"\nItem 1:1 [0]\nTable 1:0 [1]")
	checkValue(t, "{a=1}", "String 1:1 \"a\"\nInt 1:3 1\nPair 1:1 [0 1]\nTable 1:0 [2]")
	checkValue(t, "{a==1}", "Name 1:1 \"a\"\nInt 1:4 1\nBinary 1:2 16 [0 1]\nItem 1:1 [2]\nTable 1:0 [3]")
	checkValue(t, "{[a]=1}", "Name 1:2 \"a\"\nInt 1:5 1\nPair 1:1 [0 1]\nTable 1:0 [2]")
	checkValue(t, "{[ 'a' ] = 1}", "String 1:3 \"a\"\nInt 1:11 1\nPair 1:1 [0 1]\nTable 1:0 [2]")
	checkValue(t, "{-x, (y).z}", `Name 1:2 "x"
		Unary 1:1 13 [0]
		Item 1:1 [1]
		Name 1:6 "y"
		Paren 1:5 [3]
		String 1:9 "z"
		Index 1:8 [4 5]
		Item 1:5 [6]
		Table 1:0 [2 7]`)
	checkValue(t, "{a.b;c=d,[1]=2;...}", `Name 1:1 "a"
		String 1:3 "b"
		Index 1:2 [0 1]
		Item 1:1 [2]
		String 1:5 "c"
		Name 1:7 "d"
		Pair 1:5 [4 5]
		Int 1:10 1
		Int 1:13 2
		Pair 1:9 [7 8]
		Dots 1:15
		Item 1:15 [10]
		Table 1:0 [3 6 9 11]`)
	checkValue(t, "{{},{{}}}", "Table 1:1\nItem 1:1 [0]\nTable 1:5\nItem 1:5 [2]\nTable 1:4 [3]\nItem 1:4 [4]\nTable 1:0 [1 5]")
}

func TestParseOperators(t *testing.T) {
	binary := map[string]int{"+": 1, "-": 2, "*": 3, "/": 4, "%": 5, "//": 6, "^": 7, "&": 8, "|": 9, "~": 10, "<<": 11, ">>": 12,
		"..": 15, "==": 16, "~=": 17, "<": 18, "<=": 19, ">": 20, ">=": 21}
	for sign, op := range binary {
		checkValue(t, "a "+sign+" b", fmt.Sprintf("Name 1:0 \"a\"\nName 1:%d \"b\"\nBinary 1:2 %d [0 1]", 3+len(sign), op))
	}
	checkValue(t, "a and b", "Name 1:0 \"a\"\nName 1:6 \"b\"\nAnd 1:2 [0 1]")
	checkValue(t, "a or b", "Name 1:0 \"a\"\nName 1:5 \"b\"\nOr 1:2 [0 1]")
	for sign, op := range map[string]int{"-": 13, "~": 14, "not": 22, "#": 23} {
		checkValue(t, sign+" a", fmt.Sprintf("Name 1:%d \"a\"\nUnary 1:0 %d [0]", len(sign)+1, op))
	}
}

// grouped writes an expression with all its operators in brackets, from the list of nodes.
func grouped(nodes []impl.Node, at int) string {
	signs := map[int]string{1: "+", 2: "-", 3: "*", 4: "/", 5: "%", 6: "//", 7: "^", 8: "&", 9: "|", 10: "~", 11: "<<", 12: ">>", 13: "-", 14: "~",
		15: "..", 16: "==", 17: "~=", 18: "<", 19: "<=", 20: ">", 21: ">=", 22: "not ", 23: "#"}
	n := nodes[at]
	switch n.Kind {
	case impl.NodeBinary:
		return "[" + grouped(nodes, n.Kids[0]) + signs[n.Int] + grouped(nodes, n.Kids[1]) + "]"
	case impl.NodeUnary:
		return "[" + signs[n.Int] + grouped(nodes, n.Kids[0]) + "]"
	case impl.NodeAnd:
		return "[" + grouped(nodes, n.Kids[0]) + " and " + grouped(nodes, n.Kids[1]) + "]"
	case impl.NodeOr:
		return "[" + grouped(nodes, n.Kids[0]) + " or " + grouped(nodes, n.Kids[1]) + "]"
	case impl.NodeParen:
		return "(" + grouped(nodes, n.Kids[0]) + ")"
	}
	return n.Text
}

func checkGrouped(t *testing.T, expression, want string) {
	t.Helper()
	tree, fault := impl.Parse("return " + expression)
	if fault.Code != 0 {
		t.Errorf("%q has the fault %+v", expression, fault)
		return
	}
	if got := grouped(tree.Nodes, len(tree.Nodes)-4); got != want {
		t.Errorf("%q is grouped as %q, want %q", expression, got, want)
	}
}

// levels are the binary operators from the weakest to the strongest, those that bind alike together.
func levels() [][]string {
	return [][]string{{"or"}, {"and"}, {"<", ">", "<=", ">=", "~=", "=="}, {"|"}, {"~"}, {"&"}, {"<<", ">>"}, {".."}, {"+", "-"}, {"*", "/", "//", "%"}, {"^"}}
}

// spaced is how grouped writes a binary operator.
func spaced(sign string) string {
	if sign == "or" || sign == "and" {
		return " " + sign + " "
	}
	return sign
}

func TestParseBindingOfTwo(t *testing.T) {
	for i, row := range levels() {
		for j, other := range levels() {
			for _, first := range row {
				for _, second := range other {
					want := "[[a" + spaced(first) + "b]" + spaced(second) + "c]"
					if j > i || i == j && (first == ".." || first == "^") {
						want = "[a" + spaced(first) + "[b" + spaced(second) + "c]]"
					}
					checkGrouped(t, "a "+first+" b "+second+" c", want)
				}
			}
		}
	}
}

func TestParseBindingOfUnary(t *testing.T) {
	for _, unary := range []string{"not ", "-", "~", "#"} {
		for i, row := range levels() {
			for _, sign := range row {
				if i < len(levels())-1 {
					checkGrouped(t, unary+"a "+sign+" b", "[["+unary+"a]"+spaced(sign)+"b]")
				} else {
					checkGrouped(t, unary+"a ^ b", "["+unary+"[a^b]]")
				}
				checkGrouped(t, "a "+sign+" "+unary+"b", "[a"+spaced(sign)+"["+unary+"b]]")
				checkGrouped(t, "a ^ "+unary+"b "+sign+" c", map[bool]string{true: "[a^[" + unary + "[b^c]]]", false: "[[a^[" + unary + "b]]" + spaced(sign) + "c]"}[sign == "^"])
			}
		}
		for _, other := range []string{"not ", "-", "~", "#"} {
			checkGrouped(t, unary+" "+other+"a", "["+unary+"["+other+"a]]")
			checkGrouped(t, unary+" "+other+"a^b", "["+unary+"["+other+"[a^b]]]")
			checkGrouped(t, "a^"+unary+" "+other+"b*c", "[[a^["+unary+"["+other+"b]]]*c]")
		}
	}
}

func TestParseBindingOfMany(t *testing.T) {
	checkGrouped(t, "a or b and c < d | e ~ f & g << h .. i + j * k ^ l", "[a or [b and [c<[d|[e~[f&[g<<[h..[i+[j*[k^l]]]]]]]]]]]")
	checkGrouped(t, "a ^ b * c + d .. e << f & g ~ h | i < j and k or l", "[[[[[[[[[[[a^b]*c]+d]..e]<<f]&g]~h]|i]<j] and k] or l]")
	checkGrouped(t, "a .. b .. c .. d", "[a..[b..[c..d]]]")
	checkGrouped(t, "a ^ b ^ c ^ d", "[a^[b^[c^d]]]")
	checkGrouped(t, "a - b - c - d", "[[[a-b]-c]-d]")
	checkGrouped(t, "a < b < c == d", "[[[a<b]<c]==d]")
	checkGrouped(t, "a .. b + c .. d", "[a..[[b+c]..d]]")
	checkGrouped(t, "a + b .. c + d", "[[a+b]..[c+d]]")
	checkGrouped(t, "a .. b << c .. d", "[[a..b]<<[c..d]]")
	checkGrouped(t, "-a ^ -b ^ -c", "[-[a^[-[b^[-c]]]]]")
	checkGrouped(t, "a ^ -b .. c", "[[a^[-b]]..c]")
	checkGrouped(t, "not a == b", "[[not a]==b]")
	checkGrouped(t, "not (a == b)", "[not ([a==b])]")
	checkGrouped(t, "(a + b) * c", "[([a+b])*c]")
	checkGrouped(t, "a * (b + c) ^ d", "[a*[([b+c])^d]]")
	checkGrouped(t, "a ~ ~b ~= c", "[[a~[~b]]~=c]")
	checkGrouped(t, "a and b and c or d or e and f", "[[[[a and b] and c] or d] or [e and f]]")
}

func TestParseBlocksAndLoops(t *testing.T) {
	checkNodes(t, "do end", "Block 1:3\nDo 1:0 [0]\nBlock 1:0 [1]\nFunction 1:0 \"...\" [2]")
	checkNodes(t, "do ; end", "Block 1:3\nDo 1:0 [0]\nBlock 1:0 [1]\nFunction 1:0 \"...\" [2]")
	checkNodes(t, ";do\nbreak break;end;", "Break 2:4\nBreak 2:10\nBlock 2:4 [0 1]\nDo 1:1 [2]\nBlock 1:0 [3]\nFunction 1:0 \"...\" [4]")
	checkNodes(t, "while x do end", "Name 1:6 \"x\"\nBlock 1:11\nWhile 1:0 [0 1]\nBlock 1:0 [2]\nFunction 1:0 \"...\" [3]")
	checkNodes(t, "while 1 do f() end", `Int 1:6 1
		Name 1:11 "f"
		Call 1:12 [1]
		Run 1:11 [2]
		Block 1:11 [3]
		While 1:0 [0 4]
		Block 1:0 [5]
		Function 1:0 "..." [6]`)
	checkNodes(t, "repeat until x", "Block 1:7\nName 1:13 \"x\"\nRepeat 1:0 [0 1]\nBlock 1:0 [2]\nFunction 1:0 \"...\" [3]")
	checkNodes(t, "repeat local a until a", `Decl 1:13 "a"
		Local 1:7 1 [0]
		Block 1:7 [1]
		Name 1:21 "a"
		Repeat 1:0 [2 3]
		Block 1:0 [4]
		Function 1:0 "..." [5]`)
	checkNodes(t, "for i=1,2 do end", `Decl 1:4 "i"
		Int 1:6 1
		Int 1:8 2
		Block 1:13
		For 1:0 1 [0 1 2 3]
		Block 1:0 [4]
		Function 1:0 "..." [5]`)
	checkNodes(t, "for i = 1, 2, 3 do break end", `Decl 1:4 "i"
		Int 1:8 1
		Int 1:11 2
		Int 1:14 3
		Break 1:19
		Block 1:19 [4]
		For 1:0 1 [0 1 2 3 5]
		Block 1:0 [6]
		Function 1:0 "..." [7]`)
	checkNodes(t, "for a in b do end", `Decl 1:4 "a"
		Name 1:9 "b"
		Block 1:14
		In 1:0 1 [0 1 2]
		Block 1:0 [3]
		Function 1:0 "..." [4]`)
	checkNodes(t, "for a, b, c in d, e do end", `Decl 1:4 "a"
		Decl 1:7 "b"
		Decl 1:10 "c"
		Name 1:15 "d"
		Name 1:18 "e"
		Block 1:23
		In 1:0 3 [0 1 2 3 4 5]
		Block 1:0 [6]
		Function 1:0 "..." [7]`)
}

func TestParseIf(t *testing.T) {
	checkNodes(t, "if x then end", "Name 1:3 \"x\"\nBlock 1:10\nIf 1:0 [0 1]\nBlock 1:0 [2]\nFunction 1:0 \"...\" [3]")
	checkNodes(t, "if x then else end", "Name 1:3 \"x\"\nBlock 1:10\nBlock 1:15\nIf 1:0 [0 1 2]\nBlock 1:0 [3]\nFunction 1:0 \"...\" [4]")
	checkNodes(t, "if x then elseif y then end", `Name 1:3 "x"
		Block 1:10
		Name 1:17 "y"
		Block 1:24
		If 1:0 [0 1 2 3]
		Block 1:0 [4]
		Function 1:0 "..." [5]`)
	checkNodes(t, " if a then break\nelseif b then return elseif c then ; else return;end", `Name 1:4 "a"
		Break 1:11
		Block 1:11 [1]
		Name 2:24 "b"
		Return 2:31
		Block 2:31 [4]
		Name 2:45 "c"
		Block 2:52
		Return 2:59
		Block 2:59 [8]
		If 1:1 [0 2 3 5 6 7 9]
		Block 1:1 [10]
		Function 1:1 "..." [11]`)
}

func TestParseLocals(t *testing.T) {
	checkNodes(t, "local a", "Decl 1:6 \"a\"\nLocal 1:0 1 [0]\nBlock 1:0 [1]\nFunction 1:0 \"...\" [2]")
	checkNodes(t, "local a = 1", "Decl 1:6 \"a\"\nInt 1:10 1\nLocal 1:0 1 [0 1]\nBlock 1:0 [2]\nFunction 1:0 \"...\" [3]")
	checkNodes(t, "local a<const>,b< close >,c<const>,d", `Decl 1:6 1 "a"
		Decl 1:15 2 "b"
		Decl 1:26 1 "c"
		Decl 1:35 "d"
		Local 1:0 4 [0 1 2 3]
		Block 1:0 [4]
		Function 1:0 "..." [5]`)
	checkNodes(t, "local a <close>, const = 1, 2, 3 local b <close>", `Decl 1:6 2 "a"
		Decl 1:17 "const"
		Int 1:25 1
		Int 1:28 2
		Int 1:31 3
		Local 1:0 2 [0 1 2 3 4]
		Decl 1:39 2 "b"
		Local 1:33 1 [6]
		Block 1:0 [5 7]
		Function 1:0 "..." [8]`)
	checkNodes(t, "local x <const> = y < z", `Decl 1:6 1 "x"
		Name 1:18 "y"
		Name 1:22 "z"
		Binary 1:20 18 [1 2]
		Local 1:0 1 [0 3]
		Block 1:0 [4]
		Function 1:0 "..." [5]`)
	checkNodes(t, "local function f() end", "Decl 1:15 \"f\"\nBlock 1:19\nFunction 1:6 [1]\nLocalFunc 1:0 [0 2]\nBlock 1:0 [3]\nFunction 1:0 \"...\" [4]")
	checkNodes(t, "local\nfunction f(a, ...) return a end", `Decl 2:15 "f"
		Decl 2:17 "a"
		Name 2:32 "a"
		Return 2:25 [2]
		Block 2:25 [3]
		Function 2:6 1 "..." [1 4]
		LocalFunc 1:0 [0 5]
		Block 1:0 [6]
		Function 1:0 "..." [7]`)
}

func TestParseFunctionStatements(t *testing.T) {
	checkNodes(t, "function f() end", "Name 1:9 \"f\"\nBlock 1:13\nFunction 1:0 [1]\nAssign 1:0 1 [0 2]\nBlock 1:0 [3]\nFunction 1:0 \"...\" [4]")
	checkNodes(t, "function a.b(c) end", `Name 1:9 "a"
		String 1:11 "b"
		Index 1:10 [0 1]
		Decl 1:13 "c"
		Block 1:16
		Function 1:0 1 [3 4]
		Assign 1:0 1 [2 5]
		Block 1:0 [6]
		Function 1:0 "..." [7]`)
	checkNodes(t, "function a.b.c:d() end", `Name 1:9 "a"
		String 1:11 "b"
		Index 1:10 [0 1]
		String 1:13 "c"
		Index 1:12 [2 3]
		String 1:15 "d"
		Index 1:14 [4 5]
		Decl 1:16 "self"
		Block 1:19
		Function 1:0 1 [7 8]
		Assign 1:0 1 [6 9]
		Block 1:0 [10]
		Function 1:0 "..." [11]`)
	checkNodes(t, "function o:m(self, ...) end", `Name 1:9 "o"
		String 1:11 "m"
		Index 1:10 [0 1]
		Decl 1:12 "self"
		Decl 1:13 "self"
		Block 1:24
		Function 1:0 2 "..." [3 4 5]
		Assign 1:0 1 [2 6]
		Block 1:0 [7]
		Function 1:0 "..." [8]`)
	checkNodes(t, "function o:m(...) end", `Name 1:9 "o"
		String 1:11 "m"
		Index 1:10 [0 1]
		Decl 1:12 "self"
		Block 1:18
		Function 1:0 1 "..." [3 4]
		Assign 1:0 1 [2 5]
		Block 1:0 [6]
		Function 1:0 "..." [7]`)
}

func TestParseAssignmentsAndCalls(t *testing.T) {
	checkNodes(t, "a = 1", "Name 1:0 \"a\"\nInt 1:4 1\nAssign 1:0 1 [0 1]\nBlock 1:0 [2]\nFunction 1:0 \"...\" [3]")
	checkNodes(t, "a, b.c, d[1], (e).f = g, h", `Name 1:0 "a"
		Name 1:3 "b"
		String 1:5 "c"
		Index 1:4 [1 2]
		Name 1:8 "d"
		Int 1:10 1
		Index 1:9 [4 5]
		Name 1:15 "e"
		Paren 1:14 [7]
		String 1:18 "f"
		Index 1:17 [8 9]
		Name 1:22 "g"
		Name 1:25 "h"
		Assign 1:0 4 [0 3 6 10 11 12]
		Block 1:0 [13]
		Function 1:0 "..." [14]`)
	checkNodes(t, "f().a = 1", "Name 1:0 \"f\"\nCall 1:1 [0]\nString 1:4 \"a\"\nIndex 1:3 [1 2]\nInt 1:8 1\nAssign 1:0 1 [3 4]\nBlock 1:0 [5]\nFunction 1:0 \"...\" [6]")
	checkNodes(t, "f()", "Name 1:0 \"f\"\nCall 1:1 [0]\nRun 1:0 [1]\nBlock 1:0 [2]\nFunction 1:0 \"...\" [3]")
	checkNodes(t, "a.b()", "Name 1:0 \"a\"\nString 1:2 \"b\"\nIndex 1:1 [0 1]\nCall 1:3 [2]\nRun 1:0 [3]\nBlock 1:0 [4]\nFunction 1:0 \"...\" [5]")
	checkNodes(t, "o:m''", "Name 1:0 \"o\"\nString 1:3\nMethod 1:1 \"m\" [0 1]\nRun 1:0 [2]\nBlock 1:0 [3]\nFunction 1:0 \"...\" [4]")
	checkNodes(t, "f{}\n(g)()", `Name 1:0 "f"
		Table 1:1
		Call 1:1 [0 1]
		Name 2:5 "g"
		Call 2:4 [2 3]
		Call 2:7 [4]
		Run 1:0 [5]
		Block 1:0 [6]
		Function 1:0 "..." [7]`)
	checkNodes(t, "f{};(g)()", `Name 1:0 "f"
		Table 1:1
		Call 1:1 [0 1]
		Run 1:0 [2]
		Name 1:5 "g"
		Paren 1:4 [4]
		Call 1:7 [5]
		Run 1:4 [6]
		Block 1:0 [3 7]
		Function 1:0 "..." [8]`)
	// What isn't a suffixed takes no arguments, so that a statement begins there.
	checkNodes(t, "a = nil (g)()", `Name 1:0 "a"
		Nil 1:4
		Assign 1:0 1 [0 1]
		Name 1:9 "g"
		Paren 1:8 [3]
		Call 1:11 [4]
		Run 1:8 [5]
		Block 1:0 [2 6]
		Function 1:0 "..." [7]`)
	checkNodes(t, "a = function() end (g)()", `Name 1:0 "a"
		Block 1:15
		Function 1:4 [1]
		Assign 1:0 1 [0 2]
		Name 1:20 "g"
		Paren 1:19 [4]
		Call 1:22 [5]
		Run 1:19 [6]
		Block 1:0 [3 7]
		Function 1:0 "..." [8]`)
}

func TestParseReturnsAndLabels(t *testing.T) {
	checkNodes(t, "return", "Return 1:0\nBlock 1:0 [0]\nFunction 1:0 \"...\" [1]")
	checkNodes(t, "return;", "Return 1:0\nBlock 1:0 [0]\nFunction 1:0 \"...\" [1]")
	checkNodes(t, ";;return ;", "Return 1:2\nBlock 1:0 [0]\nFunction 1:0 \"...\" [1]")
	checkNodes(t, "return 1, f() ;", "Int 1:7 1\nName 1:10 \"f\"\nCall 1:11 [1]\nReturn 1:0 [0 2]\nBlock 1:0 [3]\nFunction 1:0 \"...\" [4]")
	checkNodes(t, "repeat return until x", "Return 1:7\nBlock 1:7 [0]\nName 1:20 \"x\"\nRepeat 1:0 [1 2]\nBlock 1:0 [3]\nFunction 1:0 \"...\" [4]")
	checkNodes(t, "break", "Break 1:0\nBlock 1:0 [0]\nFunction 1:0 \"...\" [1]")
	checkNodes(t, "goto a", "Goto 1:0 \"a\"\nBlock 1:0 [0]\nFunction 1:0 \"...\" [1]")
	checkNodes(t, ":: a ::", "Label 1:0 \"a\"\nBlock 1:0 [0]\nFunction 1:0 \"...\" [1]")
	checkNodes(t, "::a::goto\na;;break::a::", `Label 1:0 "a"
		Goto 1:5 "a"
		Break 2:13
		Label 2:18 "a"
		Block 1:0 [0 1 2 3]
		Function 1:0 "..." [4]`)
}

// kidsOf are the lists inside of a tree.
func kidsOf(tree impl.Tree) [][]int {
	var lists [][]int
	for _, n := range tree.Nodes {
		lists = append(lists, n.Kids)
	}
	return lists
}

func TestParseSharesNothing(t *testing.T) {
	const source = "local a <const>, b = {1, x = 2, [3] = 4}, function(p, ...) return p + 1, ... end a.b, c[1] = f(1, 2), o:m(3) if a then elseif b then else end"
	tree, _ := impl.Parse(source)
	want := treeText(tree)
	for i, list := range kidsOf(tree) {
		list = list[:cap(list)]
		for j := range list {
			list[j] = -1000*i - j - 1
		}
	}
	for i, list := range kidsOf(tree) {
		for j, kid := range list[:cap(list)] {
			if kid != -1000*i-j-1 {
				t.Fatalf("the kids of node %d share memory with others", i)
			}
		}
	}
	nodes := tree.Nodes[:cap(tree.Nodes)]
	for i := range nodes {
		nodes[i] = impl.Node{Kind: -1}
	}
	again, _ := impl.Parse(source)
	if treeText(again) != want {
		t.Errorf("writing into one answer changes the next")
	}
	third, _ := impl.Parse(source)
	for i := range again.Nodes {
		again.Nodes[i].Text = "changed"
		slices.Reverse(again.Nodes[i].Kids)
	}
	if treeText(third) != want {
		t.Errorf("two answers share memory")
	}
}
