package tests

import (
	"slices"
	"strings"
	"testing"

	"loop.example/g00002/impl"
)

// The model takes the grammar of chapter 4 as it is written there, and follows all ways to read a text at once (by
// Earley's sets), so that it tells the first token with which no text of the grammar goes on.

const theGrammar = `
text    = block End
block   = { stat | ";" } [ "return" [ exprs ] [ ";" ] ]
stat    = "if" expr "then" block { "elseif" expr "then" block } [ "else" block ] "end"
        | "while" expr "do" block "end" | "do" block "end" | "repeat" block "until" expr
        | "for" Name "=" expr "," expr [ "," expr ] "do" block "end"
        | "for" Name { "," Name } "in" exprs "do" block "end"
        | "function" Name { "." Name } [ ":" Name ] body | "local" "function" Name body
        | "local" Name attrib { "," Name attrib } [ "=" exprs ]
        | "break" | "goto" Name | "::" Name "::" | call | target { "," target } "=" exprs
attrib  = [ "<" attr ">" ]
attr    = Name
body    = "(" [ "..." | Name { "," Name } [ "," "..." ] ] ")" block "end"
exprs   = expr { "," expr }
begun   = ( Name | "(" expr ")" ) { "." Name | "[" expr "]" | ":" Name args | args }
suffixed = begun
call    = begun ( ":" Name args | args )
target  = Name | begun ( "." Name | "[" expr "]" )
args    = "(" [ exprs ] ")" | table | String
table   = "{" [ field { ( "," | ";" ) field } [ "," | ";" ] ] "}"
field   = "[" expr "]" "=" expr | Name "=" expr | expr
simple  = Int | Float | String | "nil" | "false" | "true" | "..." | table | "function" body | suffixed
expr    = { unary } simple { binary { unary } simple }
unary   = "not" | "-" | "~" | "#"
binary  = "or" | "and" | "<" | ">" | "<=" | ">=" | "~=" | "==" | "|" | "~" | "&" | "<<" | ">>" | ".." | "+" | "-" | "*" | "/" | "//" | "%" | "^"
`

// A suffixed takes all that can go with it: it isn't over where one of these stands behind it.
var (
	takesAll = []string{"suffixed", "call"}
	goesWith = []string{`"."`, `"["`, `":"`, `"("`, `"{"`, "String"}
)

type grammarRule struct {
	head string
	body []string
}

// grammar has the rules by what they are for, without repetitions, options and groups: these are rules of their own.
type grammar struct {
	rules []grammarRule
	heads map[string][]int
	empty map[string]bool
}

func readGrammar(text string) *grammar {
	g := &grammar{heads: map[string][]int{}, empty: map[string]bool{}}
	var fields []string
	for _, line := range strings.Split(strings.TrimSpace(text), "\n") {
		if line[0] != ' ' && len(fields) > 0 {
			g.addRule(fields)
			fields = nil
		}
		fields = append(fields, strings.Fields(line)...)
	}
	g.addRule(fields)
	g.findEmpty()
	return g
}

func (g *grammar) add(head string, body []string) {
	g.heads[head] = append(g.heads[head], len(g.rules))
	g.rules = append(g.rules, grammarRule{head, body})
}

func (g *grammar) addRule(fields []string) {
	choices, _ := g.readChoices(fields[2:])
	for _, body := range choices {
		g.add(fields[0], body)
	}
}

// readChoices reads up to the end of a group, and gives what is behind it.
func (g *grammar) readChoices(fields []string) (choices [][]string, rest []string) {
	choices = [][]string{nil}
	last := 0
	for len(fields) > 0 {
		field := fields[0]
		fields = fields[1:]
		switch field {
		case "|":
			choices = append(choices, nil)
			last++
		case "{", "[", "(":
			var inner [][]string
			inner, fields = g.readChoices(fields)
			choices[last] = append(choices[last], g.addGroup(field, inner))
		case "}", "]", ")":
			return choices, fields
		default:
			choices[last] = append(choices[last], field)
		}
	}
	return choices, nil
}

func (g *grammar) addGroup(kind string, choices [][]string) string {
	name := kind + strings.Repeat("'", len(g.rules))
	if kind != "(" {
		g.add(name, nil)
	}
	for _, body := range choices {
		if kind == "{" {
			body = append([]string{name}, body...)
		}
		g.add(name, body)
	}
	return name
}

// findEmpty finds what may stand for no token at all.
func (g *grammar) findEmpty() {
	for range g.rules {
		for _, rule := range g.rules {
			if !slices.ContainsFunc(rule.body, func(part string) bool { return !g.empty[part] }) {
				g.empty[rule.head] = true
			}
		}
	}
}

// way is a rule that has been followed up to a point, from a token on.
type way struct {
	rule, point, from int
}

// reading is where all ways have come to behind each token.
type reading struct {
	g    *grammar
	sets [][]way
}

func newReading(g *grammar) *reading {
	r := &reading{g: g}
	var first []way
	for _, rule := range g.heads["text"] {
		first = append(first, way{rule: rule})
	}
	r.sets = [][]way{first}
	return r
}

// symbolOf is how the grammar tells a token.
func symbolOf(token impl.Token) string {
	switch token.Kind {
	case impl.TokEnd:
		return "End"
	case impl.TokName:
		return "Name"
	case impl.TokInt:
		return "Int"
	case impl.TokFloat:
		return "Float"
	case impl.TokString:
		return "String"
	}
	return `"` + token.Text + `"`
}

// next is what a way asks for next; nothing at its end.
func (r *reading) next(w way) string {
	if body := r.g.rules[w.rule].body; w.point < len(body) {
		return body[w.point]
	}
	return ""
}

// whole are all ways at the last token, if the next one is the one told.
func (r *reading) whole(symbol string) []way {
	at := len(r.sets) - 1
	set := slices.Clone(r.sets[at])
	seen := map[way]bool{}
	add := func(w way) {
		if !seen[w] {
			seen[w] = true
			set = append(set, w)
		}
	}
	for _, w := range set {
		seen[w] = true
	}
	for i := 0; i < len(set); i++ {
		w := set[i]
		head, part := r.g.rules[w.rule].head, r.next(w)
		for _, rule := range r.g.heads[part] {
			add(way{rule: rule, from: at})
		}
		if r.g.empty[part] {
			add(way{w.rule, w.point + 1, w.from})
		}
		if part != "" || slices.Contains(takesAll, head) && slices.Contains(goesWith, symbol) {
			continue
		}
		outer := set
		if w.from < at {
			outer = r.sets[w.from]
		}
		for _, o := range outer {
			if r.next(o) == head {
				add(way{o.rule, o.point + 1, o.from})
			}
		}
	}
	return set
}

// push goes on behind a token, and tells whether there is a way on.
func (r *reading) push(token impl.Token) bool {
	symbol := symbolOf(token)
	at := len(r.sets) - 1
	r.sets[at] = r.whole(symbol)
	var behind []way
	for _, w := range r.sets[at] {
		if r.next(w) == symbol {
			behind = append(behind, way{w.rule, w.point + 1, w.from})
		}
	}
	r.sets = append(r.sets, behind)
	return len(behind) > 0
}

// readsAttrib tells whether the last token was a name between < and >.
func (r *reading) readsAttrib() bool {
	return slices.ContainsFunc(r.sets[len(r.sets)-1], func(w way) bool { return r.g.rules[w.rule].head == "attr" })
}

// modelFault tells the fault of a list of tokens, but for that of depth.
func modelFault(g *grammar, tokens []impl.Token) impl.Fault {
	r := newReading(g)
	closed := false
	for _, token := range tokens {
		if !r.push(token) {
			return impl.Fault{Code: impl.FaultToken, Line: token.Line, At: token.At}
		}
		switch {
		case token.Kind == impl.TokWord && token.Text == "local":
			closed = false
		case r.readsAttrib() && (token.Text != "const" && token.Text != "close" || token.Text == "close" && closed):
			return impl.Fault{Code: impl.FaultAttrib, Line: token.Line, At: token.At}
		case r.readsAttrib() && token.Text == "close":
			closed = true
		}
	}
	return impl.Fault{}
}

// checkParseFault looks that both calls tell a fault and nothing else.
func checkParseFault(t *testing.T, source string, want impl.Fault) {
	t.Helper()
	tree, fault := impl.Parse(source)
	if fault != want || want.Code != 0 && len(tree.Nodes) != 0 {
		t.Errorf("Parse(%q) = %d nodes, %+v, want %+v", source, len(tree.Nodes), fault, want)
	}
	text, fault := impl.Format(source)
	if fault != want || want.Code != 0 && text != "" {
		t.Errorf("Format(%q) = %q, %+v, want %+v", source, text, fault, want)
	}
}

// checkByGrammar holds the fault of a text against the model.
func checkByGrammar(t *testing.T, g *grammar, source string) {
	t.Helper()
	tokens, fault := modelLex(source)
	if fault.Code == 0 {
		fault = modelFault(g, tokens)
	}
	checkParseFault(t, source, fault)
}

// formsOfGrammar has a text for each form of the grammar.
func formsOfGrammar() []string {
	return []string{
		"if a then b() elseif c then elseif d then return else e() end",
		"while a do b() end", "do ; end", "repeat a() until b",
		"for a = 1, 2 do end", "for a = 1, 2, 3 do break end", "for a in b do end", "for a, b, c in d, e do end",
		"function a() end", "function a.b.c:d(e, f, ...) return end", "function a:b(...) end",
		"local function a(b) end", "local a", "local a, b <const>, c <close> = 1, 2", "local a <close> = b < c",
		"break ; goto a ::a:: ;", "a()", "a.b[c]:d(e)'f'{g}", "(a)(b)", "a = b", "a, b.c, d[e], (f).g = h, i", "a().b = c",
		"return", "return ;", "return a, b ;", "do return 1.5 end",
		"a = { }", "a = { b, [c] = d, e = f ; g , }", "a = { b = c ; }", "a = { { }, 'b' }",
		"a = 1 + -b ^ not c .. 'd' // ~#e", "a = nil or false and true == ... ~= 1.5", "a = function ( ) end", "a = function ( b, ... ) c = ... end",
		"a = (b)", "a = b:c{}", "a = b'c' .d", "a = (b)[1](2)", "f(function() return function(a) end end, { })",
	}
}

// allTokens has each word and sign, and one of each other kind; two names of attributes are among them.
func allTokens() []string {
	return append(strings.Fields(theWords+" "+theSigns), "a", "const", "close", "1", "1.5", "'a'")
}

func TestParseFaultsAtEveryPlace(t *testing.T) {
	g := readGrammar(theGrammar)
	for _, source := range formsOfGrammar() {
		checkParseFault(t, source, impl.Fault{})
		tokens, _ := modelLex(source)
		for _, token := range tokens {
			for _, next := range allTokens() {
				checkByGrammar(t, g, source[:token.At]+" "+next)
			}
			checkByGrammar(t, g, source[:token.At])
			checkByGrammar(t, g, source[token.At:])
		}
	}
}

// Of each text a token is left out, put in its place or ahead of it.
func TestParseFaultsOfChangedTexts(t *testing.T) {
	g := readGrammar(theGrammar)
	for _, source := range formsOfGrammar() {
		tokens, _ := modelLex(source)
		for i, token := range tokens[:len(tokens)-1] {
			behind := source[tokens[i+1].At:]
			checkByGrammar(t, g, source[:token.At]+behind)
			for _, other := range []string{"a", ",", "=", "end", "(", ")", "1", "'s'", ";", "...", "do", ".", "}", "\n<", "return"} {
				checkByGrammar(t, g, source[:token.At]+other+" "+behind)
				checkByGrammar(t, g, source[:token.At]+other+" "+source[token.At:])
			}
		}
	}
}

// All rows of two tokens, and of three and four of some of them.
func TestParseFaultsOfShortTexts(t *testing.T) {
	g := readGrammar(theGrammar)
	for _, a := range allTokens() {
		for _, b := range allTokens() {
			checkByGrammar(t, g, a+" "+b)
		}
	}
	some := []string{"a", "(", ")", "=", ",", ".", "'s'", "{", "}", "return", ";", "-"}
	rows := []string{""}
	for range 4 {
		var longer []string
		for _, row := range rows {
			for _, token := range some {
				longer = append(longer, row+" "+token)
			}
		}
		rows = longer
		if len(rows) > len(some) {
			for _, row := range rows {
				checkByGrammar(t, g, row)
			}
		}
	}
}
