package tests

import (
	"strconv"
	"strings"
	"testing"

	"loop.example/g00002/impl"
)

// The model folds the flat list of nodes, with the numbers as texts; and it works expressions out as they stand.

// numberText is the number of a node as text, if it is one.
func numberText(n impl.Node) (string, bool) {
	switch n.Kind {
	case impl.NodeInt:
		return strconv.Itoa(n.Int), true
	case impl.NodeFloat:
		return impl.FormatNumber(impl.Number{IsFloat: true, Bits: n.Bits}), true
	}
	return "", false
}

// nodeOfNumber makes a node of the text of a finite number.
func nodeOfNumber(text string, place impl.Node) impl.Node {
	n := impl.Node{Line: place.Line, At: place.At}
	if i, err := strconv.Atoi(text); err == nil {
		n.Kind, n.Int = impl.NodeInt, i
		return n
	}
	number, _ := impl.ParseNumber(strings.TrimPrefix(text, "-"))
	n.Kind, n.Bits = impl.NodeFloat, number.Bits
	if strings.HasPrefix(text, "-") {
		n.Bits ^= 1 << 63
	}
	return n
}

// modelFolder makes the folded list behind what it has.
type modelFolder struct {
	from, to []impl.Node
}

// add folds a node of the tree, and gives its place.
func (m *modelFolder) add(at int) int {
	n := m.from[at]
	begin := len(m.to)
	var kids []int
	var below []impl.Node
	for _, kid := range n.Kids {
		place := m.add(kid)
		kids = append(kids, place)
		below = append(below, m.to[place])
	}
	if new, ok := modelReplaced(n, below); ok {
		m.to = append(m.to[:begin], new)
		return begin
	}
	n.Kids = kids
	m.to = append(m.to, n)
	return len(m.to) - 1
}

// modelReplaced is what chapter 6 puts in a node's place, if it does.
func modelReplaced(n impl.Node, kids []impl.Node) (impl.Node, bool) {
	var numbers []string
	for _, kid := range kids {
		if text, ok := numberText(kid); ok {
			numbers = append(numbers, text)
		}
	}
	all := len(numbers) == len(kids)
	outcome, code := "", 0
	switch {
	case n.Kind == impl.NodeParen && all:
		outcome = numbers[0]
	case n.Kind == impl.NodeBinary && all && n.Int <= impl.NumShr:
		outcome, code = impl.Arith(n.Int, numbers[0], numbers[1])
	case n.Kind == impl.NodeUnary && all && (n.Int == impl.NumNeg || n.Int == impl.NumNot):
		outcome, code = impl.Arith(n.Int, numbers[0], "")
	case n.Kind == impl.NodeUnary && n.Int == impl.OpNot:
		switch kids[0].Kind {
		case impl.NodeNil, impl.NodeFalse:
			return impl.Node{Kind: impl.NodeTrue, Line: n.Line, At: n.At}, true
		case impl.NodeTrue, impl.NodeInt, impl.NodeFloat, impl.NodeString:
			return impl.Node{Kind: impl.NodeFalse, Line: n.Line, At: n.At}, true
		}
		return impl.Node{}, false
	default:
		return impl.Node{}, false
	}
	switch outcome {
	case "nan", "inf", "-inf", "-0.0":
		return impl.Node{}, false
	}
	return nodeOfNumber(outcome, n), code == 0
}

// modelFold is the folded tree of a text without a fault.
func modelFold(tree impl.Tree) impl.Tree {
	m := modelFolder{from: tree.Nodes}
	m.add(len(tree.Nodes) - 1)
	return impl.Tree{Nodes: m.to}
}

// checkFoldByModel holds the folded tree of a text against the model, and tells how many nodes are gone.
func checkFoldByModel(t *testing.T, source string) int {
	t.Helper()
	parsed, fault := impl.Parse(source)
	tree, same := impl.Fold(source)
	if fault.Code != 0 {
		if fault != same || len(tree.Nodes) != 0 {
			t.Errorf("Fold(%.200q) tells %+v, want %+v", source, same, fault)
		}
		return 0
	}
	want := modelFold(parsed)
	if got := treeText(tree); same.Code != 0 || got != treeText(want) {
		t.Errorf("Fold(%.200q) tells %+v and has the nodes\n%.2000s\nwant\n%.2000s", source, same, got, treeText(want))
	}
	return len(parsed.Nodes) - len(tree.Nodes)
}

func TestFoldOfGrownTexts(t *testing.T) {
	texts, _ := grown(4000)
	gone := 0
	for _, text := range texts {
		gone += checkFoldByModel(t, text)
	}
	if gone < 2000 {
		t.Errorf("but %d nodes were folded away", gone)
	}
}

// Every operation of two numbers out of a row of all sorts.
func TestFoldOfAllPairs(t *testing.T) {
	numbers := []string{"0", "1", "2", "3", "63", "64", "0xffffffffffffffff", "0x8000000000000000", "9223372036854775807", "0xfffffffffffffffe", "0.0", "0.5", "1.0", "1.5", "2.0", "3.0",
		"1e300", "1e-300", "9223372036854775808", "9007199254740993", "1023", "1024", "(-1.5)", "(-1)", "(-0.0)", "-2", "-2.5", "~0"}
	for _, a := range numbers {
		for _, sign := range []string{"+", "-", "*", "/", "%", "//", "^", "&", "|", "~", "<<", ">>", "..", "<", ">", "<=", ">=", "==", "~=", "and", "or"} {
			for _, b := range numbers {
				checkFoldByModel(t, "return "+a+" "+sign+" "+b)
			}
		}
		for _, sign := range []string{"-", "~", "not ", "#", "- -", "-~", "not not ", "~-"} {
			checkFoldByModel(t, "return "+sign+a)
			checkFoldByModel(t, "return "+sign+"("+a+")")
		}
	}
}

// worked is what an expression comes to: a number as text, nil, true, false, a string in quotes, or a failure with its place.
type worked struct {
	value string
	code  int
	line  int
	at    int
}

// codeKind stands for an operand that the operation doesn't take.
const codeKind = 100

func isNumberText(value string) bool {
	return value != "nil" && value != "true" && value != "false" && !strings.HasPrefix(value, "'")
}

func (w worked) holds() bool { return w.value != "nil" && w.value != "false" }

// workOut works out a node of an expression of constants.
func workOut(nodes []impl.Node, at int) worked {
	n := nodes[at]
	if text, ok := numberText(n); ok {
		return worked{value: text}
	}
	switch n.Kind {
	case impl.NodeNil:
		return worked{value: "nil"}
	case impl.NodeFalse:
		return worked{value: "false"}
	case impl.NodeTrue:
		return worked{value: "true"}
	case impl.NodeString:
		return worked{value: "'" + n.Text}
	}
	first := workOut(nodes, n.Kids[0])
	switch {
	case first.code != 0 || n.Kind == impl.NodeParen:
		return first
	case n.Kind == impl.NodeUnary:
		return workUnary(n, first)
	case n.Kind == impl.NodeAnd && !first.holds() || n.Kind == impl.NodeOr && first.holds():
		return first
	}
	second := workOut(nodes, n.Kids[1])
	if second.code != 0 || n.Kind == impl.NodeAnd || n.Kind == impl.NodeOr {
		return second
	}
	return workBinary(n, first.value, second.value)
}

func truth(holds bool) worked { return worked{value: strconv.FormatBool(holds)} }

func workUnary(n impl.Node, operand worked) worked {
	switch {
	case n.Int == impl.OpNot:
		return truth(!operand.holds())
	case n.Int == impl.OpLen || !isNumberText(operand.value):
		return worked{code: codeKind, line: n.Line, at: n.At}
	}
	value, code := impl.Arith(n.Int, operand.value, "")
	if code != 0 {
		return worked{code: code, line: n.Line, at: n.At}
	}
	return worked{value: value}
}

func workBinary(n impl.Node, a, b string) worked {
	if n.Int == impl.OpConcat {
		return worked{value: "'" + a + b}
	}
	if !isNumberText(a) || !isNumberText(b) {
		if n.Int == impl.OpEq || n.Int == impl.OpNe {
			return truth((a == b) == (n.Int == impl.OpEq))
		}
		return worked{code: codeKind, line: n.Line, at: n.At}
	}
	if n.Int > impl.OpConcat {
		order, _ := impl.Compare(a, b)
		switch n.Int {
		case impl.OpEq:
			return truth(order == 0)
		case impl.OpNe:
			return truth(order != 0)
		case impl.OpLt:
			return truth(order == -1)
		case impl.OpLe:
			return truth(order == -1 || order == 0)
		case impl.OpGt:
			return truth(order == 1)
		}
		return truth(order == 1 || order == 0)
	}
	value, code := impl.Arith(n.Int, a, b)
	if code != 0 {
		return worked{code: code, line: n.Line, at: n.At}
	}
	return worked{value: value}
}

// constants makes an expression of numbers, other constants and operators.
func (g *grower) constants(depth int) string {
	simples := []string{"0", "1", "2", "7", "63", "1.5", "0.0", "0.5", "2.0", "1e308", "0x7fffffffffffffff", "0xffffffffffffffff", "9223372036854775808", "3.0"}
	signs := []string{"+", "-", "*", "/", "%", "//", "^", "&", "|", "~", "<<", ">>", "+", "-", "*", "/", "%", "//", "<", "<=", "==", "~=", ">", ">=", "..", "and", "or"}
	blank := []string{" ", "\n", "  "}[g.pick(3)]
	switch form := g.pick(12); {
	case depth == 0 || form < 2:
		if g.pick(12) == 0 {
			return []string{"nil", "true", "false", "'a'", "''"}[g.pick(5)]
		}
		return simples[g.pick(len(simples))]
	case form < 4:
		return "(" + blank + g.constants(depth-1) + ")"
	case form < 6:
		return []string{"- ", "~", "not ", "- "}[g.pick(4)] + g.constants(depth-1)
	}
	return g.constants(depth-1) + blank + signs[g.pick(len(signs))] + " " + g.constants(depth-1)
}

// P7: what is folded comes to the same as what stands in the text; a failure is at the same place.
func TestFoldComesToTheSame(t *testing.T) {
	const count, each = 12000, 150
	row := words(3*count + each)
	folded, failed, whole := 0, 0, 0
	for i := range count {
		g := grower{chance: row[3*i : 3*i+each]}
		source := "return " + g.constants(1+i%5)
		parsed, fault := impl.Parse(source)
		tree, same := impl.Fold(source)
		if fault.Code != 0 || same.Code != 0 {
			t.Fatalf("%q has the faults %+v and %+v", source, fault, same)
		}
		want := workOut(parsed.Nodes, len(parsed.Nodes)-4)
		if got := workOut(tree.Nodes, len(tree.Nodes)-4); got != want {
			t.Errorf("%q comes to %+v, folded to %+v", source, want, got)
		}
		folded += len(parsed.Nodes) - len(tree.Nodes)
		if want.code != 0 {
			failed++
		}
		if len(tree.Nodes) == 4 {
			whole++
		}
		checkFoldByModel(t, source)
	}
	if folded < count || failed < count/20 || whole < count/10 {
		t.Errorf("but %d nodes are folded away, %d expressions fail and %d are folded whole", folded, failed, whole)
	}
}

// What is folded already stays: the folded tree, folded once more, is the same.
func TestFoldDoneTwice(t *testing.T) {
	texts, _ := grown(500)
	for _, text := range texts {
		if _, fault := impl.Parse(text); fault.Code != 0 {
			continue
		}
		tree, _ := impl.Fold(text)
		if again := modelFold(tree); treeText(again) != treeText(tree) {
			t.Errorf("Fold(%q) leaves something to fold", text)
		}
	}
}
