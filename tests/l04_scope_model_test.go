package tests

import (
	"fmt"
	"strings"
	"testing"

	"loop.example/g00002/impl"
)

// The model tells chapter 5 from the flat list of nodes, by what stands where: no node is looked at in passing, each
// question is asked of the whole tree.

type scopeModel struct {
	nodes    []impl.Node
	first    []int // the least node below a node, or itself
	parent   []int
	function []int // the function that a node stands in
}

func newScopeModel(tree impl.Tree) scopeModel {
	m := scopeModel{nodes: tree.Nodes, first: make([]int, len(tree.Nodes)), parent: make([]int, len(tree.Nodes)), function: make([]int, len(tree.Nodes))}
	for i, n := range tree.Nodes {
		m.first[i], m.parent[i] = i, -1
		if len(n.Kids) > 0 {
			m.first[i] = m.first[n.Kids[0]]
		}
		for _, kid := range n.Kids {
			m.parent[kid] = i
		}
	}
	for i := range tree.Nodes {
		at := m.parent[i]
		for at >= 0 && m.kind(at) != impl.NodeFunction {
			at = m.parent[at]
		}
		m.function[i] = at
	}
	return m
}

// in tells whether a node is another one or below it.
func (m scopeModel) in(node, other int) bool { return m.first[other] <= node && node <= other }

func (m scopeModel) kind(node int) int {
	if node < 0 {
		return 0
	}
	return m.nodes[node].Kind
}

func (m scopeModel) lastKid(node int) int {
	kids := m.nodes[node].Kids
	return kids[len(kids)-1]
}

// sees tells whether the name at a node may stand for what a declaration declares.
func (m scopeModel) sees(node, decl int) bool {
	by := m.parent[decl]
	switch m.kind(by) {
	case impl.NodeFunction, impl.NodeFor, impl.NodeIn:
		return m.in(node, m.lastKid(by))
	case impl.NodeLocalFunc:
		if m.in(node, m.lastKid(by)) {
			return true
		}
	}
	block := m.parent[by]
	around := m.parent[block]
	return node > by && (m.in(node, block) || m.kind(around) == impl.NodeRepeat && m.in(node, around))
}

// declOf is the declaration that a name stands for, or -1: of those it sees the last one is the innermost.
func (m scopeModel) declOf(node int) int {
	for decl := node - 1; decl >= 0; decl-- {
		if m.kind(decl) == impl.NodeDecl && m.nodes[decl].Text == m.nodes[node].Text && m.sees(node, decl) {
			return decl
		}
	}
	return -1
}

// register counts the variables that have registers where another one is declared, and what the loops around it take.
func (m scopeModel) register(decl int) int {
	count := 0
	function := m.function[decl]
	for other := m.first[function]; other < decl; other++ {
		if m.kind(other) != impl.NodeDecl || m.function[other] != function {
			continue
		}
		by := m.parent[other]
		if k := m.kind(by); k == impl.NodeLocal || k == impl.NodeLocalFunc {
			by = m.parent[by]
		}
		if m.in(decl, by) {
			count++
		}
	}
	for at := m.parent[decl]; at != function; at = m.parent[at] {
		if k := m.kind(at); k == impl.NodeFor || k == impl.NodeIn {
			count += 3
		}
	}
	return count
}

// modelVerdict is all that is told of a tree.
type modelVerdict struct {
	scoped impl.Scoped
	faults []impl.Fault
}

func (v *modelVerdict) fail(code int, n impl.Node) {
	v.faults = append(v.faults, impl.Fault{Code: code, Line: n.Line, At: n.At})
}

// first is the fault to be told.
func (v *modelVerdict) first() impl.Fault {
	if len(v.faults) == 0 {
		return impl.Fault{}
	}
	least := v.faults[0]
	for _, fault := range v.faults {
		if fault.At < least.At || fault.At == least.At && fault.Code < least.Code {
			least = fault
		}
	}
	return least
}

func (m scopeModel) verdict() modelVerdict {
	var v modelVerdict
	registers, decls := map[int]int{}, map[int]int{}
	captured := map[int]bool{}
	for i, n := range m.nodes {
		switch n.Kind {
		case impl.NodeDecl:
			registers[i] = m.register(i)
			if registers[i] >= impl.MaxLocals {
				v.fail(impl.FaultLocals, n)
			}
		case impl.NodeName:
			decls[i] = m.declOf(i)
			if decls[i] >= 0 && m.function[decls[i]] != m.function[i] {
				captured[decls[i]] = true
			}
		}
	}
	ups := m.upvalues(decls, &v)
	for i, n := range m.nodes {
		use := impl.Use{Node: i, Index: registers[i]}
		switch {
		case n.Kind == impl.NodeDecl:
			use.Where, use.Captured = impl.UseDecl, captured[i]
		case n.Kind != impl.NodeName:
			continue
		case decls[i] < 0:
			use.Where = impl.UseGlobal
		case m.function[decls[i]] == m.function[i]:
			use.Where, use.Index = impl.UseLocal, registers[decls[i]]
		default:
			use.Where, use.Index = impl.UseUp, placeOf(ups[m.function[i]], decls[i])
		}
		v.scoped.Uses = append(v.scoped.Uses, use)
	}
	for i, n := range m.nodes {
		if n.Kind != impl.NodeFunction {
			continue
		}
		function := impl.Func{Node: i, Params: n.Int, Dots: n.Text == "..."}
		around := m.function[i]
		for _, decl := range ups[i] {
			up := impl.Up{FromLocal: m.function[decl] == around, Index: registers[decl]}
			if !up.FromLocal {
				up.Index = placeOf(ups[around], decl)
			}
			function.Ups = append(function.Ups, up)
		}
		v.scoped.Funcs = append(v.scoped.Funcs, function)
	}
	m.checkPlaces(decls, &v)
	return v
}

func placeOf(list []int, element int) int {
	for i, e := range list {
		if e == element {
			return i
		}
	}
	return -1
}

// upvalues are, for each function, the declarations that it needs from outside, in the order of the names that need them.
func (m scopeModel) upvalues(decls map[int]int, v *modelVerdict) map[int][]int {
	ups := map[int][]int{}
	for i, n := range m.nodes {
		decl, ok := decls[i]
		if !ok || decl < 0 {
			continue
		}
		for function := m.function[i]; function != m.function[decl]; function = m.function[function] {
			if placeOf(ups[function], decl) >= 0 {
				continue
			}
			ups[function] = append(ups[function], decl)
			if len(ups[function]) > impl.MaxUps {
				v.fail(impl.FaultUpvals, n)
			}
		}
	}
	return ups
}

// checkPlaces looks for all faults that aren't of numbers.
func (m scopeModel) checkPlaces(decls map[int]int, v *modelVerdict) {
	for i, n := range m.nodes {
		switch n.Kind {
		case impl.NodeDots:
			if m.nodes[m.function[i]].Text != "..." {
				v.fail(impl.FaultVararg, n)
			}
		case impl.NodeBreak:
			if !m.inLoop(i) {
				v.fail(impl.FaultBreak, n)
			}
		case impl.NodeLabel:
			if m.labelTwice(i) {
				v.fail(impl.FaultLabel, n)
			}
		case impl.NodeGoto:
			if !m.reaches(i) {
				v.fail(impl.FaultGoto, n)
			}
		case impl.NodeAssign:
			for _, target := range n.Kids[:n.Int] {
				if m.kind(target) == impl.NodeName && decls[target] >= 0 && m.nodes[decls[target]].Int != 0 {
					v.fail(impl.FaultConst, m.nodes[target])
				}
			}
		}
	}
}

func (m scopeModel) inLoop(node int) bool {
	for at := m.parent[node]; m.kind(at) != impl.NodeFunction; at = m.parent[at] {
		switch m.kind(at) {
		case impl.NodeWhile, impl.NodeRepeat, impl.NodeFor, impl.NodeIn:
			return true
		}
	}
	return false
}

func (m scopeModel) isLabel(node int, name string) bool {
	return m.kind(node) == impl.NodeLabel && m.nodes[node].Text == name
}

func (m scopeModel) labelTwice(label int) bool {
	name := m.nodes[label].Text
	for at := m.parent[label]; m.kind(at) != impl.NodeFunction; at = m.parent[at] {
		for _, kid := range m.nodes[at].Kids {
			if m.isLabel(kid, name) && (at != m.parent[label] || kid < label) {
				return true
			}
		}
	}
	return false
}

// reaches tells whether a goto may be where it is.
func (m scopeModel) reaches(node int) bool {
	name := m.nodes[node].Text
	statement := node
	for at := m.parent[node]; m.kind(at) != impl.NodeFunction; at = m.parent[at] {
		kids := m.nodes[at].Kids
		for place, kid := range kids {
			if !m.isLabel(kid, name) {
				continue
			}
			declared, others := 0, 0
			for _, between := range kids[:place] {
				if k := m.kind(between); between > statement && (k == impl.NodeLocal || k == impl.NodeLocalFunc) {
					declared++
				}
			}
			for _, behind := range kids[place:] {
				if m.kind(behind) != impl.NodeLabel {
					others++
				}
			}
			return declared == 0 || others == 0 && m.kind(m.parent[at]) != impl.NodeRepeat
		}
		statement = at
	}
	return false
}

// checkScopeByModel holds an answer against the model, and tells the code of its fault.
func checkScopeByModel(t *testing.T, source string) int {
	t.Helper()
	tree, fault := impl.Parse(source)
	if fault.Code != 0 {
		checkScopeFault(t, source, fault)
		return fault.Code
	}
	v := newScopeModel(tree).verdict()
	if want := v.first(); want.Code != 0 {
		checkScopeFault(t, source, want)
		return want.Code
	}
	s, fault := impl.Scope(source)
	if fault != (impl.Fault{}) || fmt.Sprintf("%+v", s) != fmt.Sprintf("%+v", v.scoped) {
		t.Errorf("Scope(%.2000q) is\n%+v, %+v, want\n%+v", source, s, fault, v.scoped)
	}
	checkShorterText(t, source)
	return 0
}

func TestScopeOfForms(t *testing.T) {
	for _, a := range formsOfGrammar() {
		checkScopeByModel(t, a)
		for _, b := range formsOfGrammar() {
			checkScopeByModel(t, "do "+a+" end "+b)
			checkScopeByModel(t, "local b, c, d repeat "+a+" until f(function(a, e) "+b+" end)")
		}
	}
}

// Texts of the grammar, most of which have a fault.
func TestScopeOfGrownTexts(t *testing.T) {
	texts, _ := grown(3000)
	for _, text := range texts {
		checkScopeByModel(t, text)
	}
}

// scopeGrower makes texts of few names in which most names stand for something; rare makes faults so rare as told.
type scopeGrower struct {
	grower
	rare, depth, loops int
}

func (g *scopeGrower) say(texts ...string) { g.text.WriteString(strings.Join(texts, " ") + " ") }

func (g *scopeGrower) anyName() string { return string("abcdefgh"[g.pick(8)]) }

func (g *scopeGrower) names() string {
	list := g.anyName()
	for g.pick(3) == 0 {
		list += ", " + g.anyName()
	}
	return list
}

func (g *scopeGrower) attribs() string {
	list := g.anyName()
	if g.pick(4) == 0 {
		list += []string{" <const>", " <close>"}[g.pick(2)]
	}
	if g.pick(2) == 0 {
		list += ", " + g.names()
	}
	return list
}

func (g *scopeGrower) body(open, shut string) {
	g.say(open)
	g.depth++
	for range g.pick(6) {
		g.one()
	}
	g.depth--
	g.say(shut)
}

func (g *scopeGrower) function(head string) {
	loops := g.loops
	g.loops = 0
	params := g.names()
	if g.pick(3) == 0 {
		params += ", ..."
	}
	g.body(head+"("+params+")", "end")
	g.loops = loops
}

func (g *scopeGrower) value() {
	switch {
	case g.pick(4) == 0 && g.depth < 8:
		g.function("function")
	case g.pick(6*g.rare) == 0:
		g.say("...")
	default:
		g.say(g.anyName(), "+", g.anyName())
	}
}

// one says one statement.
func (g *scopeGrower) one() {
	deep := g.depth > 8 || !g.spend()
	switch form := g.pick(18); {
	case form < 4 || deep:
		g.say("local", g.attribs(), "=")
		g.value()
	case form < 7:
		g.say(g.names(), "=")
		g.value()
	case form == 7:
		g.function("local function " + g.anyName())
	case form == 8:
		g.function("function " + g.anyName() + []string{"", ".x", ":y"}[g.pick(3)])
	case form == 9:
		g.body("do", "end")
	case form == 10:
		g.body("if "+g.anyName()+" then", "")
		g.body("elseif "+g.anyName()+" then", "")
		g.body("else", "end")
	case form < 15:
		g.loop(form)
	case g.pick(g.rare) == 0:
		g.jump()
	case g.loops > 0:
		g.say("break")
	default:
		g.say("f(", g.names(), ")")
	}
}

func (g *scopeGrower) loop(form int) {
	g.loops++
	switch form {
	case 11:
		g.body("while "+g.anyName()+" do", "end")
	case 12:
		g.body("repeat", "until")
		g.value()
	case 13:
		g.say("for", g.anyName(), "= 1,")
		g.value()
		g.body("do", "end")
	case 14:
		g.say("for", g.names(), "in")
		g.value()
		g.body("do", "end")
	}
	g.loops--
}

func (g *scopeGrower) jump() {
	switch name := g.anyName(); g.pick(5) {
	case 0, 1:
		g.say("goto", name)
	case 2, 3:
		g.say("::" + name + "::")
	case 4:
		g.say("break")
	}
}

// scopedTexts makes so many texts, with faults so rare as told.
func scopedTexts(count, rare int) []string {
	const each = 2000
	chance := words(count*7 + each + rare*997)[rare*997:]
	var texts []string
	for i := range count {
		g := scopeGrower{grower: grower{chance: chance[7*i : 7*i+each], room: 3 + i%40}, rare: rare}
		for g.spend() {
			g.one()
		}
		texts = append(texts, g.text.String())
	}
	return texts
}

func TestScopeOfRandomTexts(t *testing.T) {
	t.Parallel()
	codes, wheres := map[int]int{}, map[int]int{}
	captured, chains := 0, 0
	for _, rare := range []int{1, 4, 30} {
		for _, source := range scopedTexts(1500, rare) {
			codes[checkScopeByModel(t, source)]++
			s, _ := impl.Scope(source)
			for _, u := range s.Uses {
				wheres[u.Where]++
				if u.Captured {
					captured++
				}
			}
			for _, f := range s.Funcs {
				for _, up := range f.Ups {
					if !up.FromLocal {
						chains++
					}
				}
			}
		}
	}
	for _, code := range []int{0, impl.FaultVararg, impl.FaultBreak, impl.FaultGoto, impl.FaultConst} {
		if codes[code] < 100 {
			t.Errorf("there are but %d texts with the code %d", codes[code], code)
		}
	}
	for where := impl.UseLocal; where <= impl.UseDecl; where++ {
		if wheres[where] < 1000 {
			t.Errorf("there are but %d uses of the kind %d", wheres[where], where)
		}
	}
	if captured < 500 || chains < 500 {
		t.Errorf("there are but %d captured variables and %d upvalues of upvalues", captured, chains)
	}
	if codes[impl.FaultToken] > 0 {
		t.Errorf("%d of the texts aren't of the grammar", codes[impl.FaultToken])
	}
}

// jumps says statements with few labels, some of them in blocks and functions.
func (g *scopeGrower) jumps() {
	for range g.pick(7) {
		label := string("ab"[g.pick(2)])
		switch form := g.pick(13); {
		case form < 3:
			g.say("goto", label)
		case form < 6:
			g.say("::" + label + "::")
		case form == 6:
			g.say([]string{"local x", "local function x() end"}[g.pick(2)])
		case form == 7:
			g.say([]string{"f()", ";"}[g.pick(2)])
		case g.spend():
			around := [][2]string{{"do", "end"}, {"repeat", "until x"}, {"while x do", "end"}, {"for x = 1, 2 do", "end"}, {"f(function()", "end)"}}[form-8]
			g.say(around[0])
			g.jumps()
			g.say(around[1])
		}
	}
}

func TestScopeOfJumps(t *testing.T) {
	const each = 200
	codes := map[int]int{}
	row := words(20000 + each)
	for i := range 20000 {
		g := scopeGrower{grower: grower{chance: row[i : i+each], room: 1 + i%5}}
		g.jumps()
		codes[checkScopeByModel(t, g.text.String())]++
	}
	for _, code := range []int{0, impl.FaultLabel, impl.FaultGoto} {
		if codes[code] < 1000 {
			t.Errorf("there are but %d texts with the code %d", codes[code], code)
		}
	}
	if codes[impl.FaultToken] > 0 {
		t.Errorf("%d of the texts aren't of the grammar", codes[impl.FaultToken])
	}
}

// Texts with so many variables that the limits are near.
func TestScopeOfManyVariables(t *testing.T) {
	codes := map[int]int{}
	row := words(300 * 20)
	for i := range 300 {
		g := scopeGrower{grower: grower{chance: row[20*i : 20*i+20]}}
		outer, middle := 20+g.pick(165), g.pick(150)
		text := "local " + named("v", outer) + " "
		if g.pick(3) == 0 {
			text += "for " + named("i", 1+g.pick(8)) + " in v1 do local " + named("j", 1+g.pick(20)) + " end "
		}
		text += "return function(" + named("w", 1+middle) + ") local v0, a, b f(" + named("v", 1+g.pick(50)) + ") "
		text += "g(function() return " + named("w", 1+g.pick(40)) + ", " + named("v", 1+g.pick(40)) + " end) "
		for range g.pick(3) {
			text += "for i, j in a do local " + named("k", 1+g.pick(30)) + " "
			text += "h(function(a) a = {" + named("k", 1+g.pick(30)) + ", " + named("v", 1+g.pick(70)) + "} end) end "
		}
		codes[checkScopeByModel(t, text+"end")]++
	}
	for _, code := range []int{0, impl.FaultLocals, impl.FaultUpvals} {
		if codes[code] < 15 {
			t.Errorf("there are but %d texts with the code %d", codes[code], code)
		}
	}
}
