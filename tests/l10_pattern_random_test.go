package tests

import (
	"strings"
	"testing"

	"loop.example/g00002/impl"
)

// eachText gives all texts of an alphabet up to a length, the shortest first.
func eachText(alphabet []string, most int, do func(text string)) {
	texts := []string{""}
	for range most {
		var longer []string
		for _, text := range texts {
			do(text)
			for _, part := range alphabet {
				longer = append(longer, text+part)
			}
		}
		texts = longer
	}
	for _, text := range texts {
		do(text)
	}
}

// All short patterns, of bytes that mean something beside ones that don't.
func TestPatternsAllShort(t *testing.T) {
	right, matched := 0, 0
	look := func(subjects ...string) func(string) {
		return func(pattern string) {
			for _, subject := range subjects {
				answer := checkPatternByModel(t, subject, pattern)
				if answer != "bad" {
					right++
				}
				if answer != "bad" && answer != "none" {
					matched++
				}
			}
		}
	}
	eachText(strings.Split("%ab1()[]^$-*+?.fd", ""), 3, look("ab", "%a)b(1", ""))
	eachText([]string{"(", ")", "()", "a", "%1", "%2", "b*"}, 4, look("aab"))
	eachText([]string{"[", "]", "^", "-", "a", "%", "+"}, 5, look("a-]^%+"))
	eachText([]string{"a*", "a-", "a?", "a+", "b", "()", ".-"}, 4, look("aabaa", "b"))
	if right < 20000 || matched < 6000 {
		t.Errorf("just %d right and %d matched", right, matched)
	}
}

// patternGrower makes patterns by the grammar, and subjects of the bytes that they name.
type patternGrower struct {
	*grower
	open, closed []int
	captures     int
}

func (g *patternGrower) one(of ...string) string { return of[g.pick(len(of))] }

func (g *patternGrower) some(most int, part func() string) string {
	var text strings.Builder
	for range g.pick(most + 1) {
		text.WriteString(part())
	}
	return text.String()
}

// byteItself is a byte of few.
func (g *patternGrower) byteItself() string {
	return g.one("a", "a", "b", "b", "c", "A", "1", "_", " ", "\x00", "\xff")
}

func (g *patternGrower) piece() string {
	switch g.pick(5) {
	case 0:
		return "%" + g.one("a", "d", "s", "w", "A", "D", "S", "p", "c", "x", "u", "L", "]", "-", "%", "^")
	case 1:
		return g.one("a-c", "b-c", "c-a", "0-9", "\x00-a", "_-\xff", "A-Z", "a-a")
	}
	return g.byteItself()
}

func (g *patternGrower) set() string {
	first := g.one("", "", "", "^", "^", "]", "^]", "-", "^-")
	if first == "" || first == "^" {
		first += g.piece()
	}
	return "[" + first + g.some(3, g.piece) + g.one("", "", "-") + "]"
}

func (g *patternGrower) single() string {
	switch g.pick(6) {
	case 0:
		return "."
	case 1:
		return "%" + g.one("a", "d", "s", "w", "A", "D", "S", "W", ".", "%", "(", "\x00")
	case 2:
		return g.set()
	}
	return g.byteItself()
}

func (g *patternGrower) item() string {
	switch g.pick(12) {
	case 0:
		g.captures++
		if g.pick(3) == 0 {
			g.closed = append(g.closed, g.captures)
			return "()"
		}
		g.open = append(g.open, g.captures)
		return "("
	case 1, 2:
		return g.close()
	case 3:
		if len(g.closed) > 0 {
			return "%" + string(rune('0'+g.closed[g.pick(len(g.closed))]))
		}
	case 4:
		return "%b" + g.one("ab", "aa", "bc", "()", "\x00\xff", "1_")
	case 5:
		return "%f" + g.set()
	}
	return g.single() + g.one("", "", "", "*", "+", "-", "?")
}

// close closes the innermost capture that is open, if one is.
func (g *patternGrower) close() string {
	if len(g.open) == 0 {
		return ""
	}
	g.closed = append(g.closed, g.open[len(g.open)-1])
	g.open = g.open[:len(g.open)-1]
	return ")"
}

// pattern makes a pattern that is right, but for some in which a byte is taken out or put in.
func (g *patternGrower) pattern(begin string) string {
	text := begin
	for range 1 + g.pick(6) {
		if g.captures < 8 {
			text += g.item()
		}
	}
	for len(g.open) > 0 {
		text += g.close()
	}
	text += g.one("", "", "", "", "$")
	if g.pick(12) == 0 && len(text) > len(begin)+1 {
		at := len(begin) + g.pick(len(text)-len(begin))
		text = text[:at] + g.one("", "%", "[", "(", ")", "^", "-") + text[at+g.pick(2):]
	}
	return text
}

func (g *patternGrower) subject(most int) string { return g.some(most, g.byteItself) }

// eachPattern makes patterns and subjects at random.
func eachPattern(count int, do func(g *patternGrower)) {
	const each = 150
	chance := words(count * each)
	for i := range count {
		do(&patternGrower{grower: &grower{chance: chance[each*i : each*(i+1)]}})
	}
}

// Promise 16, and all that chapter 11 tells, over subjects and patterns made at random.
func TestPatternsAsTheModel(t *testing.T) {
	answers := map[string]int{}
	eachPattern(30000, func(g *patternGrower) {
		pattern := g.pattern(g.one("", "", "", "", "^"))
		for range 2 {
			subject := g.subject(14)
			answers[checkPatternByModel(t, subject, pattern)]++
			init := g.pick(len(subject)+3) - 1
			checkFind(t, subject, pattern, init, findText(impl.Find(subject, pattern, init)))
		}
	})
	if answers["bad"] < 500 || answers["none"] < 5000 || len(answers) < 500 {
		t.Errorf("too few kinds of answers: %d bad, %d none, %d kinds", answers["bad"], answers["none"], len(answers))
	}
}

func TestGsubAsTheModel(t *testing.T) {
	answers := map[string]int{}
	eachPattern(20000, func(g *patternGrower) {
		pattern := g.pattern(g.one("", "", "", "^"))
		repl := g.some(5, func() string {
			return g.one("x", "", "%0", "%0", "%1", "%1", "%%", "%2", "%3", "\xff", "\x00", g.one("%9", "%", "%a", "yy", "y"))
		})
		subject := g.subject(14)
		most := g.pick(6) - 1
		answer := gsubText(impl.Gsub(subject, pattern, repl, most))
		checkGsub(t, subject, pattern, repl, most, answer)
		answers[answer]++
	})
	if answers["bad"] < 200 || answers["repl"] < 2000 || len(answers) < 5000 {
		t.Errorf("too few kinds of answers: %d bad, %d repl, %d kinds", answers["bad"], answers["repl"], len(answers))
	}
}

// boundCall is one of the calls, as the program answers it, as the model does, and as the model counts its steps.
type boundCall struct {
	program, model func(subject, pattern string) string
	run            func(r *patternRun)
}

func boundCalls() []boundCall {
	return []boundCall{
		{
			func(s, p string) string { return findText(impl.Find(s, p, 0)) },
			func(s, p string) string { return findText(modelFind(s, p, 0)) },
			func(r *patternRun) { r.findFrom(0) },
		},
		{
			func(s, p string) string { return findAllText(impl.FindAll(s, p)) },
			func(s, p string) string { return findAllText(modelFindAll(s, p)) },
			func(r *patternRun) { r.findAll(10000) },
		},
		{
			func(s, p string) string { return gsubText(impl.Gsub(s, p, "<%0>", 2)) },
			func(s, p string) string { return gsubText(modelGsub(s, p, "<%0>", 2)) },
			func(r *patternRun) { r.findAll(2) },
		},
	}
}

// Steps at random, at the last that is allowed and one behind it: ahead of the subject stand bytes at which the first item
// fails, so that each takes just one step more.
func TestPatternStepsAsTheModel(t *testing.T) {
	looked := 0
	eachPattern(400, func(g *patternGrower) {
		pattern := "q[b-a]?" + g.pattern("") // no byte is of the set, which keeps q from a sign
		tail := "q" + g.subject(10) + g.one("", "q") + g.subject(10)
		for _, call := range boundCalls() {
			r, code := modelBegin(tail, pattern)
			if code != 0 {
				continue
			}
			call.run(r)
			last := strings.Repeat("x", 50000-r.steps) + tail
			if got, want := call.program(last, pattern), call.model(last, pattern); got != want || got == "steps" {
				t.Errorf("%s in %s with 50000 steps: %s, not %s", short(pattern), short(tail), short(got), short(want))
			}
			if got := call.program("x"+last, pattern); got != "steps" {
				t.Errorf("%s in %s with 50001 steps: %s", short(pattern), short(tail), short(got))
			}
			looked++
		}
	})
	if looked < 1000 {
		t.Errorf("just %d looked at", looked)
	}
}
