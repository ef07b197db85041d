package tests

import (
	"math"
	"strings"
	"testing"

	"loop.example/g00002/impl"
)

// The model makes texts from the grammar, by chance, together with the lists of nodes that they must have.

// grower makes one text. Until it is whole, a node's At is the number of its token; room bounds what is still to come.
type grower struct {
	chance []uint64
	room   int
	text   strings.Builder
	places []impl.Token
	last   string
	nodes  []impl.Node
}

// pick gives a number below the one told.
func (g *grower) pick(below int) int {
	if len(g.chance) == 0 {
		return 0
	}
	word := g.chance[0]
	g.chance = g.chance[1:]
	return int(word >> 20 % uint64(below))
}

// spend takes some of the room, and tells whether there was any.
func (g *grower) spend() bool {
	g.room--
	return g.room > 0 && len(g.chance) > 0
}

// token writes a token behind a blank or a comment, and gives its number.
func (g *grower) token(text string) int {
	blanks := []string{" ", " ", " ", "\n", "\t \r\n", " --x\n", " --[[\n]]"}
	g.text.WriteString(blanks[g.pick(len(blanks))])
	g.places = append(g.places, impl.Token{Line: 1 + strings.Count(g.text.String(), "\n"), At: g.text.Len()})
	g.text.WriteString(text)
	g.last = text
	return len(g.places) - 1
}

// ahead is the number of the token that comes next.
func (g *grower) ahead() int { return len(g.places) }

func (g *grower) node(kind, token int, n impl.Node, kids ...int) int {
	n.Kind, n.At = kind, token
	n.Kids = kids
	g.nodes = append(g.nodes, n)
	return len(g.nodes) - 1
}

func (g *grower) name() string {
	names := []string{"a", "b", "x1", "_", "self", "const", "close", "If", "END"}
	return names[g.pick(len(names))]
}

// named writes a name and gives a node for it.
func (g *grower) named(kind int) int {
	name := g.name()
	return g.node(kind, g.token(name), impl.Node{Text: name})
}

// whole gives the text and its tree.
func (g *grower) whole() (string, impl.Tree) {
	block := g.block()
	g.node(impl.NodeFunction, 0, impl.Node{Text: "..."}, block)
	end := g.token("")
	for i := range g.nodes {
		place := g.places[min(g.nodes[i].At, end)]
		g.nodes[i].Line, g.nodes[i].At = place.Line, place.At
	}
	return g.text.String(), impl.Tree{Nodes: g.nodes}
}

func (g *grower) block() int {
	begin := g.ahead()
	var kids []int
	for count := g.pick(4); count > 0 && g.spend(); count-- {
		for g.pick(5) == 0 {
			g.token(";")
		}
		kids = append(kids, g.statement())
	}
	if g.pick(4) == 0 {
		var values []int
		word := g.token("return")
		if g.pick(2) == 0 {
			values = g.list(func() int { return g.expression(0) })
		}
		kids = append(kids, g.node(impl.NodeReturn, word, impl.Node{}, values...))
	}
	if g.pick(5) == 0 {
		g.token(";")
	}
	return g.node(impl.NodeBlock, begin, impl.Node{}, kids...)
}

// list makes one or more, with commas between.
func (g *grower) list(make func() int) []int {
	list := []int{make()}
	for g.pick(3) == 0 && g.spend() {
		g.token(",")
		list = append(list, make())
	}
	return list
}

func (g *grower) expressions() []int { return g.list(func() int { return g.expression(0) }) }

func (g *grower) statement() int {
	begin := g.ahead()
	switch g.pick(14) {
	case 0:
		return g.choice()
	case 1:
		g.token("while")
		condition := g.expression(0)
		return g.node(impl.NodeWhile, begin, impl.Node{}, condition, g.loopBlock())
	case 2:
		return g.node(impl.NodeDo, begin, impl.Node{}, g.loopBlock())
	case 3:
		g.token("repeat")
		block := g.block()
		g.token("until")
		return g.node(impl.NodeRepeat, begin, impl.Node{}, block, g.expression(0))
	case 4:
		return g.counting()
	case 5:
		g.token("for")
		kids := g.list(func() int { return g.named(impl.NodeDecl) })
		names := len(kids)
		g.token("in")
		kids = append(kids, g.expressions()...)
		return g.node(impl.NodeIn, begin, impl.Node{Int: names}, append(kids, g.loopBlock())...)
	case 6:
		return g.functionStatement()
	case 7:
		g.token("local")
		function := g.token("function")
		name := g.named(impl.NodeDecl)
		return g.node(impl.NodeLocalFunc, begin, impl.Node{}, name, g.function(function, false))
	case 8:
		return g.local()
	case 9:
		g.token("break")
		return g.node(impl.NodeBreak, begin, impl.Node{})
	case 10:
		g.token("goto")
		name := g.name()
		g.token(name)
		return g.node(impl.NodeGoto, begin, impl.Node{Text: name})
	case 11:
		g.token("::")
		name := g.name()
		g.token(name)
		g.token("::")
		return g.node(impl.NodeLabel, begin, impl.Node{Text: name})
	case 12:
		return g.assignment()
	}
	begin = g.beginPlain()
	return g.node(impl.NodeRun, begin, impl.Node{}, g.suffixed(true, 1))
}

// beginPlain sets a call or an assignment apart from what is ahead of it, as it may begin with a bracket.
func (g *grower) beginPlain() int {
	switch g.last {
	case "end", "do", "then", "else", "repeat", "nil", "true", "false", "...", "::", "1", "0x7F", "1.5":
	default:
		g.token(";")
	}
	return g.ahead()
}

func (g *grower) choice() int {
	word := g.token("if")
	kids := []int{g.expression(0)}
	g.token("then")
	kids = append(kids, g.block())
	for g.pick(3) == 0 {
		g.token("elseif")
		kids = append(kids, g.expression(0))
		g.token("then")
		kids = append(kids, g.block())
	}
	if g.pick(2) == 0 {
		g.token("else")
		kids = append(kids, g.block())
	}
	g.token("end")
	return g.node(impl.NodeIf, word, impl.Node{}, kids...)
}

func (g *grower) loopBlock() int {
	g.token("do")
	block := g.block()
	g.token("end")
	return block
}

func (g *grower) counting() int {
	word := g.token("for")
	kids := []int{g.named(impl.NodeDecl)}
	g.token("=")
	kids = append(kids, g.expression(0))
	for range 1 + g.pick(2) {
		g.token(",")
		kids = append(kids, g.expression(0))
	}
	return g.node(impl.NodeFor, word, impl.Node{Int: 1}, append(kids, g.loopBlock())...)
}

func (g *grower) functionStatement() int {
	word := g.token("function")
	target := g.named(impl.NodeName)
	for g.pick(3) == 0 {
		sign := g.token(".")
		target = g.node(impl.NodeIndex, sign, impl.Node{}, target, g.named(impl.NodeString))
	}
	method := g.pick(2) == 0
	if method {
		sign := g.token(":")
		target = g.node(impl.NodeIndex, sign, impl.Node{}, target, g.named(impl.NodeString))
	}
	return g.node(impl.NodeAssign, word, impl.Node{Int: 1}, target, g.function(word, method))
}

// function makes a function from its parameters on.
func (g *grower) function(word int, method bool) int {
	var kids []int
	if open := g.token("("); method {
		kids = append(kids, g.node(impl.NodeDecl, open, impl.Node{Text: "self"}))
	}
	dots := ""
	switch g.pick(4) {
	case 1:
		kids = append(kids, g.list(func() int { return g.named(impl.NodeDecl) })...)
	case 2:
		kids = append(kids, g.list(func() int { return g.named(impl.NodeDecl) })...)
		g.token(",")
		fallthrough
	case 3:
		dots = "..."
		g.token(dots)
	}
	g.token(")")
	params := len(kids)
	kids = append(kids, g.block())
	g.token("end")
	return g.node(impl.NodeFunction, word, impl.Node{Int: params, Text: dots}, kids...)
}

func (g *grower) local() int {
	word := g.token("local")
	closed := false
	kids := g.list(func() int {
		name := g.named(impl.NodeDecl)
		attrib := g.pick(4)
		if attrib == 2 && closed || attrib == 3 {
			attrib = 0
		}
		if attrib > 0 {
			closed = closed || attrib == 2
			g.token("<")
			g.token([]string{"", "const", "close"}[attrib])
			g.token(">")
		}
		g.nodes[name].Int = attrib
		return name
	})
	names := len(kids)
	if g.pick(2) == 0 {
		g.token("=")
		kids = append(kids, g.expressions()...)
	}
	return g.node(impl.NodeLocal, word, impl.Node{Int: names}, kids...)
}

func (g *grower) assignment() int {
	begin := g.beginPlain()
	kids := g.list(func() int { return g.suffixed(true, 2) })
	targets := len(kids)
	g.token("=")
	kids = append(kids, g.expressions()...)
	return g.node(impl.NodeAssign, begin, impl.Node{Int: targets}, kids...)
}

// suffixed makes a suffixed; if its end matters it is a call (1) or a target (2).
func (g *grower) suffixed(matters bool, end int) int {
	var n int
	bracket := g.pick(4) == 0 && g.spend()
	if bracket {
		open := g.token("(")
		inner := g.expression(0)
		g.token(")")
		n = g.node(impl.NodeParen, open, impl.Node{}, inner)
	} else {
		n = g.named(impl.NodeName)
	}
	suffixes := 0
	for g.pick(3) == 0 && g.spend() {
		n = g.suffix(n, g.pick(4))
		suffixes++
	}
	switch {
	case matters && end == 1:
		n = g.suffix(n, 2+g.pick(2))
	case matters && (bracket || suffixes > 0):
		n = g.suffix(n, g.pick(2))
	}
	return n
}

func (g *grower) suffix(n, form int) int {
	switch form {
	case 0:
		sign := g.token(".")
		return g.node(impl.NodeIndex, sign, impl.Node{}, n, g.named(impl.NodeString))
	case 1:
		sign := g.token("[")
		key := g.expression(0)
		g.token("]")
		return g.node(impl.NodeIndex, sign, impl.Node{}, n, key)
	case 2:
		sign, name := g.token(":"), g.name()
		g.token(name)
		return g.node(impl.NodeMethod, sign, impl.Node{Text: name}, append([]int{n}, g.arguments()...)...)
	}
	begin := g.ahead()
	return g.node(impl.NodeCall, begin, impl.Node{}, append([]int{n}, g.arguments()...)...)
}

func (g *grower) arguments() []int {
	switch g.pick(4) {
	case 0:
		return []int{g.table()}
	case 1:
		return []int{g.quoted()}
	}
	g.token("(")
	var list []int
	if g.pick(2) == 0 {
		list = g.expressions()
	}
	g.token(")")
	return list
}

func (g *grower) table() int {
	begin := g.token("{")
	var kids []int
	for count := g.pick(4); count > 0 && g.spend(); count-- {
		kids = append(kids, g.field())
		if g.pick(3) == 0 || count > 1 {
			g.token([]string{",", ";"}[g.pick(2)])
			continue
		}
		break
	}
	g.token("}")
	return g.node(impl.NodeTable, begin, impl.Node{}, kids...)
}

func (g *grower) field() int {
	begin := g.ahead()
	var key int
	switch g.pick(3) {
	case 0:
		return g.node(impl.NodeItem, begin, impl.Node{}, g.expression(0))
	case 1:
		g.token("[")
		key = g.expression(0)
		g.token("]")
	case 2:
		key = g.named(impl.NodeString)
	}
	g.token("=")
	return g.node(impl.NodePair, begin, impl.Node{}, key, g.expression(0))
}

func (g *grower) quoted() int {
	spellings := []string{`"a"`, `''`, `'end'`, `[[x y]]`, `"\0001\255\n\\\""`, "[==[\n]]]==]", `'_9'`, `'9_'`, "\"\xc3\x28'\"", `'a.b'`, `"\x7f~ \31"`}
	values := []string{"a", "", "end", "x y", "\x001\xff\n\\\"", "]]", "_9", "9_", "\xc3\x28'", "a.b", "\x7f~ \x1f"}
	i := g.pick(len(values))
	return g.node(impl.NodeString, g.token(spellings[i]), impl.Node{Text: values[i]})
}

// expression makes an expression of operators that bind at least as strong as told, by the row of levels.
func (g *grower) expression(weakest int) int {
	const unary, power = 10, 11
	level := weakest + g.pick(power+4-weakest)
	if level > power || !g.spend() {
		return g.simple()
	}
	switch {
	case level == unary:
		signs, ops := []string{"not", "-", "~", "#"}, []int{impl.OpNot, impl.NumNeg, impl.NumNot, impl.OpLen}
		i := g.pick(len(signs))
		sign := g.token(signs[i])
		return g.node(impl.NodeUnary, sign, impl.Node{Int: ops[i]}, g.expression(unary))
	case level == power:
		left := g.simple()
		sign := g.token("^")
		return g.node(impl.NodeBinary, sign, impl.Node{Int: impl.NumPow}, left, g.expression(unary))
	}
	row := levels()[level]
	text := row[g.pick(len(row))]
	leftmost, rightmost := level, level+1
	if text == ".." {
		leftmost, rightmost = level+1, level
	}
	left := g.expression(leftmost)
	sign := g.token(text)
	right := g.expression(rightmost)
	switch text {
	case "and":
		return g.node(impl.NodeAnd, sign, impl.Node{}, left, right)
	case "or":
		return g.node(impl.NodeOr, sign, impl.Node{}, left, right)
	}
	ops := map[string]int{"<": impl.OpLt, ">": impl.OpGt, "<=": impl.OpLe, ">=": impl.OpGe, "~=": impl.OpNe, "==": impl.OpEq, "|": impl.NumOr, "~": impl.NumXor,
		"&": impl.NumAnd, "<<": impl.NumShl, ">>": impl.NumShr, "..": impl.OpConcat, "+": impl.NumAdd, "-": impl.NumSub, "*": impl.NumMul, "/": impl.NumDiv, "//": impl.NumIdiv, "%": impl.NumMod}
	return g.node(impl.NodeBinary, sign, impl.Node{Int: ops[text]}, left, right)
}

func (g *grower) simple() int {
	plain := []string{"nil", "false", "true", "..."}
	kinds := []int{impl.NodeNil, impl.NodeFalse, impl.NodeTrue, impl.NodeDots}
	integers, values := []string{"0", "1", "0x7F", "9223372036854775807", "0xffffffffffffffff", "0X8000000000000000"}, []int{0, 1, 127, math.MaxInt, -1, math.MinInt}
	floats, words := []string{"1.5", ".0", "1e100", "9223372036854775808", "2e-7", "1E3"}, []float64{1.5, 0, 1e100, 1 << 63, 2e-7, 1000}
	switch g.pick(9) {
	case 0:
		i := g.pick(len(plain))
		return g.node(kinds[i], g.token(plain[i]), impl.Node{})
	case 1:
		i := g.pick(len(integers))
		return g.node(impl.NodeInt, g.token(integers[i]), impl.Node{Int: values[i]})
	case 2:
		i := g.pick(len(floats))
		return g.node(impl.NodeFloat, g.token(floats[i]), impl.Node{Bits: math.Float64bits(words[i])})
	case 3:
		return g.quoted()
	case 4:
		if g.spend() {
			return g.table()
		}
	case 5:
		if g.spend() {
			return g.function(g.token("function"), false)
		}
	}
	return g.suffixed(false, 0)
}

// grown gives so many texts with their trees, from short ones to long ones.
func grown(count int) ([]string, []impl.Tree) {
	const each = 3000
	chance := words(count + each)
	var texts []string
	var trees []impl.Tree
	for i := range count {
		g := grower{chance: chance[i : i+each], room: 2 + i%150}
		text, tree := g.whole()
		texts, trees = append(texts, text), append(trees, tree)
	}
	return texts, trees
}

// depthOf is how many nodes stand on the longest way from the root.
func depthOf(tree impl.Tree) int {
	depths := make([]int, len(tree.Nodes))
	for i, n := range tree.Nodes {
		for _, kid := range n.Kids {
			depths[i] = max(depths[i], depths[kid])
		}
		depths[i]++
	}
	return depths[len(depths)-1]
}

func TestParseOfRandomTexts(t *testing.T) {
	texts, trees := grown(6000)
	kinds := map[int]int{}
	for i, text := range texts {
		if depthOf(trees[i]) > impl.MaxDepth || len(text) > impl.MaxSource {
			continue
		}
		tree, fault := impl.Parse(text)
		if fault != (impl.Fault{}) || treeText(tree) != treeText(trees[i]) {
			t.Fatalf("Parse(%q) tells %+v and has the nodes\n%s\nwant\n%s", text, fault, treeText(tree), treeText(trees[i]))
		}
		for _, n := range tree.Nodes {
			kinds[n.Kind]++
		}
	}
	for kind, name := range kindNames {
		if kinds[kind] < 100 {
			t.Errorf("there are but %d nodes of the kind %s", kinds[kind], name)
		}
	}
}

// Texts of the grammar with a token left out, put in or put in another's place.
func TestParseFaultsOfRandomTexts(t *testing.T) {
	g := readGrammar(theGrammar)
	texts, _ := grown(700)
	chance := words(4 * len(texts))
	for i, text := range texts {
		tokens, _ := modelLex(text)
		if len(tokens) > 80 || len(tokens) < 2 {
			continue
		}
		at := int(chance[4*i] >> 20 % uint64(len(tokens)-1))
		next := allTokens()[chance[4*i+1]>>20%uint64(len(allTokens()))]
		ahead, rest := text[:tokens[at].At], text[tokens[at].At:]
		behind := text[tokens[at+1].At:]
		checkByGrammar(t, g, ahead+behind)
		checkByGrammar(t, g, ahead+next+" "+behind)
		checkByGrammar(t, g, ahead+next+" "+rest)
		checkByGrammar(t, g, ahead)
	}
}
