package tests

import (
	"fmt"
	"strings"
	"testing"

	"loop.example/g00002/impl"
)

// codeGrower makes texts of all forms of the grammar, hardly any of which has a fault.
type codeGrower struct {
	grower
	depth  int
	dots   bool
	loops  int
	labels []string // those to which a goto may go
	made   int      // how many labels there are
	repeat bool     // the block under way is that of a repeat
}

func (g *codeGrower) blank() string { return []string{" ", " ", "\n", "  "}[g.pick(4)] }

// join sets parts apart by blanks.
func (g *codeGrower) join(parts ...string) string {
	text := ""
	for _, part := range parts {
		text += part + g.blank()
	}
	return text
}

func (g *codeGrower) anyName() string { return string("abcdefgh"[g.pick(8)]) }

// listOf makes from least to most of something.
func (g *codeGrower) listOf(least, most int, one func() string) string {
	var parts []string
	for range least + g.pick(most-least+1) {
		parts = append(parts, one())
	}
	return strings.Join(parts, ","+g.blank())
}

func (g *codeGrower) expr() string {
	g.depth++
	defer func() { g.depth-- }()
	if g.depth > 5 || !g.spend() {
		return g.simple()
	}
	binary := []string{"+", "-", "*", "/", "%", "//", "^", "&", "|", "~", "<<", ">>", "..", "==", "~=", "<", "<=", ">", ">=", "and", "or", "and", "or"}
	switch g.pick(14) {
	case 0, 1:
		return g.join(g.expr(), binary[g.pick(len(binary))], g.expr())
	case 2:
		return g.join([]string{"not", "-", "~", "#"}[g.pick(4)], g.expr())
	case 3:
		return g.join("(", g.expr(), ")")
	case 4, 5, 6:
		return g.call()
	case 7:
		return g.target()
	case 8, 9:
		return g.join("{", g.listOf(0, 4, g.field), "}")
	case 10:
		return g.function("function", "")
	}
	return g.simple()
}

func (g *codeGrower) simple() string {
	if g.dots && g.pick(5) == 0 {
		return "..."
	}
	simples := []string{"nil", "true", "false", "1", "0", "32767", "32768", "-32768", "-32769", "1.5", "32768.0", "'a'", "'b'", `""`, "0x7fffffffffffffff"}
	if g.pick(2) == 0 {
		return simples[g.pick(len(simples))]
	}
	return []string{"K", "C", g.anyName(), g.anyName(), g.anyName()}[g.pick(5)]
}

// suffixed makes something that may be indexed or called.
func (g *codeGrower) suffixed() string {
	g.depth++
	defer func() { g.depth-- }()
	if g.depth > 5 || !g.spend() {
		return g.anyName()
	}
	switch g.pick(6) {
	case 0:
		return g.call()
	case 1:
		return g.target()
	}
	return g.anyName()
}

func (g *codeGrower) call() string {
	args := "(" + g.listOf(0, 3, g.expr) + ")"
	if g.pick(5) == 0 {
		args = []string{"{}", "'s'"}[g.pick(2)]
	}
	if g.pick(3) == 0 {
		return g.suffixed() + g.blank() + ":" + g.blank() + g.anyName() + args
	}
	return g.suffixed() + g.blank() + args
}

// target makes a name or something indexed.
func (g *codeGrower) target() string {
	switch g.pick(3) {
	case 0:
		return g.suffixed() + g.blank() + "." + g.anyName()
	case 1:
		return g.suffixed() + "[" + g.expr() + "]"
	}
	return g.anyName()
}

func (g *codeGrower) field() string {
	switch g.pick(4) {
	case 0:
		return g.anyName() + g.blank() + "=" + g.blank() + g.expr()
	case 1:
		return g.join("[", g.expr(), "]", "=") + g.expr()
	}
	return g.expr()
}

func (g *codeGrower) function(head, name string) string {
	dots, loops, labels, repeat := g.dots, g.loops, g.labels, g.repeat
	defer func() { g.dots, g.loops, g.labels, g.repeat = dots, loops, labels, repeat }()
	g.dots, g.loops, g.labels, g.repeat = g.pick(2) == 0, 0, nil, false
	params := g.listOf(0, 3, g.anyName)
	switch {
	case g.dots && params == "":
		params = "..."
	case g.dots:
		params += ", ..."
	}
	return g.join(head, name+"("+params+")", g.block(4), "end")
}

// block makes some statements; what begins at a label can be gone back to, and one at the end of a block gone on to.
func (g *codeGrower) block(most int) string {
	labels := g.labels
	defer func() { g.labels = labels }()
	end := ""
	if !g.repeat && g.pick(3) == 0 {
		end = g.newLabel()
	}
	text := ""
	for range g.pick(most + 1) {
		if g.pick(8) == 0 {
			text += g.join("::" + g.newLabel() + "::")
		}
		text += g.statement()
	}
	switch {
	case end != "":
		return text + g.join("::"+end+"::")
	case g.pick(5) == 0:
		return text + g.join("return", g.listOf(0, 3, g.expr))
	}
	return text
}

func (g *codeGrower) newLabel() string {
	g.made++
	name := fmt.Sprintf("l%d", g.made)
	g.labels = append(g.labels[:len(g.labels):len(g.labels)], name)
	return name
}

// inner makes a block of its own.
func (g *codeGrower) inner(open, shut string) string {
	g.depth++
	repeat := g.repeat
	g.repeat = open == "repeat"
	text := g.join(open, g.block(4), shut)
	g.repeat = repeat
	g.depth--
	return text
}

func (g *codeGrower) attribs() string {
	var names []string
	for range 1 + g.pick(3) {
		names = append(names, g.anyName())
	}
	switch g.pick(5) {
	case 0:
		names[g.pick(len(names))] = "K <const>"
	case 1:
		names[g.pick(len(names))] = "C <close>"
	}
	return strings.Join(names, ","+g.blank())
}

func (g *codeGrower) statement() string {
	form := g.pick(20)
	if g.depth > 6 || !g.spend() {
		form = g.pick(6)
	}
	switch form {
	case 0, 1:
		return g.join("local", g.attribs(), "=", g.listOf(1, 3, g.expr))
	case 2:
		return g.join("local", g.attribs())
	case 3, 4, 6:
		return g.join(g.listOf(1, 3, g.target), "=", g.listOf(1, 4, g.expr))
	case 5, 7, 8:
		return g.call() + g.blank()
	case 9:
		return g.inner("do", "end")
	case 10, 11:
		text := g.inner(g.join("if", g.expr(), "then"), "")
		for g.pick(3) == 0 {
			text += g.inner(g.join("elseif", g.expr(), "then"), "")
		}
		if g.pick(2) == 0 {
			text += g.inner("else", "")
		}
		return text + g.join("end")
	case 12, 13, 14, 15:
		return g.loop(form)
	case 16:
		return g.function("local function", g.anyName())
	case 17:
		return g.function("function", g.anyName()+[]string{"", ".a", ":b", ".c.d:e"}[g.pick(4)])
	}
	switch {
	case g.loops > 0 && g.pick(2) == 0:
		return g.join("break")
	case len(g.labels) > 0:
		return g.join("goto", g.labels[g.pick(len(g.labels))])
	}
	return g.join("do return", g.listOf(0, 2, g.expr), "end")
}

func (g *codeGrower) loop(form int) string {
	g.loops++
	defer func() { g.loops-- }()
	switch form {
	case 12:
		return g.inner(g.join("while", g.expr(), "do"), "end")
	case 13:
		return g.inner("repeat", "until") + g.expr() + g.blank()
	case 14:
		return g.inner(g.join("for", g.anyName(), "=", g.listOf(2, 3, g.expr), "do"), "end")
	}
	return g.inner(g.join("for", g.listOf(1, 4, g.anyName), "in", g.listOf(1, 4, g.expr), "do"), "end")
}

// codedTexts makes so many texts.
func codedTexts(count int) []string {
	const each = 3000
	chance := words(count*11 + each)
	var texts []string
	for i := range count {
		g := codeGrower{grower: grower{chance: chance[11*i : 11*i+each], room: 5 + i%120}, dots: true}
		texts = append(texts, g.block(2+i%7))
	}
	return texts
}

// opsOf counts the instructions of a chunk.
func opsOf(c impl.Chunk, ops map[int]int) {
	for _, p := range c.Protos {
		for _, i := range p.Code {
			ops[i.Op]++
		}
	}
}

func TestCompileOfRandomTexts(t *testing.T) {
	t.Parallel()
	const count = 6000
	codes, ops := map[int]int{}, map[int]int{}
	for _, source := range codedTexts(count) {
		codes[checkCodeByModel(t, source)]++
		checkSafe(t, source)
		c, _ := impl.Compile(source)
		opsOf(c, ops)
	}
	if codes[impl.FaultToken] > 0 || codes[0] < count*3/4 {
		t.Errorf("there are but %d texts without a fault: %v", codes[0], codes)
	}
	for op := impl.InsTick; op <= impl.InsArith+impl.NumNot; op++ {
		if isOp(op) && ops[op] < 100 {
			t.Errorf("there are but %d instructions %s", ops[op], instrText(impl.Instr{Op: op}))
		}
	}
	if t.Failed() {
		t.Log(codes, ops)
	}
}

func TestCompileOfGrownTexts(t *testing.T) {
	t.Parallel()
	texts, _ := grown(3000)
	for _, rare := range []int{1, 4, 30} {
		texts = append(texts, scopedTexts(1000, rare)...)
	}
	whole := 0
	for _, source := range texts {
		checkCodeByModel(t, source)
		if checkSafe(t, source) {
			whole++
		}
	}
	if whole < 2000 {
		t.Errorf("there are but %d texts without a fault", whole)
	}
}

func TestCompileOfForms(t *testing.T) {
	t.Parallel()
	for _, a := range formsOfGrammar() {
		checkCodeByModel(t, a)
		for _, b := range formsOfGrammar() {
			for _, source := range []string{"do " + a + " end " + b, "local b, c, d repeat " + a + " until f(function(a, e) " + b + " end)"} {
				checkCodeByModel(t, source)
				checkSafe(t, source)
			}
		}
	}
}
