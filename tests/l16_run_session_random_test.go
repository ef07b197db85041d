package tests

import (
	"fmt"
	"strings"
	"sync"
	"testing"

	"loop.example/g00002/impl"
)

// shared is a head whose variables are globals, so that the texts behind it have its things at hand.
func shared(head string) string {
	head = strings.ReplaceAll(head, "\nlocal function ", "\nfunction ")
	head = strings.ReplaceAll(head, "\nlocal ", "\n")
	return strings.TrimPrefix(head, "local ")
}

// grownSession makes texts that use the globals x, y and z of each other, behind one that has the things of runHead.
func grownSession(chance []uint64, room int, objects bool) []string {
	g := runGrower{grower: grower{chance: chance, room: room}, objects: objects}
	show := "(type(v) == 'table' or type(v) == 'function' or type(v) == 'thread') and type(v) or rawtostring(v)"
	if objects {
		show = "rawtostring(v)"
	}
	texts := []string{shared(strings.Replace(runHead, "SHOW(v)", show, 1))}
	for range 1 + g.pick(5) {
		switch g.pick(10) {
		case 7:
			texts = append(texts, "for i = 1, "+g.one("9", "30", "60")+" do p(i) "+g.loop("i")+"end")
		case 8:
			texts = append(texts, g.one("x = = 1", "break", "goto a", "'", "local x <const> = 1 x = 2", "f(", "return return"))
		case 1:
			texts = append(texts, "x = coroutine.create("+g.function()+") p(coroutine.resume(x, "+g.expr()+"))")
		case 2:
			texts = append(texts, "p(coroutine.status(x)) p(coroutine.resume(x, "+g.expr()+")) y = coroutine.wrap("+g.function()+")")
		case 3:
			texts = append(texts, g.one("x", "y", "z")+" = "+g.function()+" n = 0")
		case 4:
			texts = append(texts, "p(pcall("+g.one("x", "y", "z")+", "+g.expr()+")) "+g.statement())
		case 5:
			texts = append(texts, "local a <close> = c("+intLitText(g.pick(9))+g.one(")", ", 1)")+" "+g.block(4))
		default:
			texts = append(texts, g.block(4))
		}
	}
	return texts
}

// heapSession makes texts that move objects about and have the collector work, behind one that has the things of heapHead.
func heapSession(chance []uint64, room int) []string {
	g := heapGrower{grower: grower{chance: chance, room: room}}
	texts := []string{shared(heapHead)}
	for range 1 + g.pick(5) {
		switch g.pick(8) {
		case 7:
			texts = append(texts, g.one("x = = 1", "f(", "@"))
		case 1:
			texts = append(texts, g.statements(3)+"error("+g.object()+")")
		case 2:
			texts = append(texts, "local z <close> = c("+g.one("", "1", "2")+") "+g.statements(4))
		default:
			texts = append(texts, g.statements(6)+g.one("", "n()", "collectgarbage() n()", "return "+g.object()))
		}
	}
	return texts
}

// sessionCount counts what has come of the texts of sessions.
type sessionCount struct {
	lock  sync.Mutex
	codes map[int]int
}

func (c *sessionCount) add(told []impl.Outcome) {
	c.lock.Lock()
	defer c.lock.Unlock()
	if c.codes == nil {
		c.codes = map[int]int{}
	}
	for _, o := range told {
		c.codes[o.Code]++
	}
}

func (c *sessionCount) hasAtLeast(t *testing.T, least map[int]int) {
	t.Helper()
	t.Log(c.codes)
	for code, n := range least {
		if c.codes[code] < n {
			t.Errorf("code %d just %d times: %v", code, c.codes[code], c.codes)
		}
	}
}

// sessionLimits are limits by a number, some of them such that a text behind the first one comes to its end by them.
func sessionLimits(i int) impl.Limits {
	limits := impl.Limits{Steps: 3000, Frames: 60, Output: 5000, Pace: paces()[i/7%4]}
	switch i % 7 {
	case 1, 2:
		limits.Steps = 52 + i%40
	case 3:
		limits.Frames = 3 + i%9
	case 4:
		limits.Output = i % 60
	case 5:
		limits.Memory = 9000 + i%5*700
	}
	return limits
}

// Promise 28, of texts made at random.
func TestSessionOfRandomTexts(t *testing.T) {
	t.Parallel()
	const count, each = 1500, 5000
	chance := words(count*5 + each)
	var codes sessionCount
	inParallel(count, func(i int) {
		codes.add(checkSession(t, grownSession(chance[5*i:5*i+each], 20+i%150, i%3 > 0), sessionLimits(i)))
	})
	codes.hasAtLeast(t, map[int]int{0: 2000, impl.OutFault: 300, impl.OutError: 700, impl.OutBudget: 50, impl.OutOutput: 40, impl.OutEnded: 100})
}

func TestSessionOfRandomHeaps(t *testing.T) {
	t.Parallel()
	const count, each = 1200, 4000
	chance := words(count*7 + each)
	var codes sessionCount
	inParallel(count, func(i int) {
		limits := heapLimits(i)
		if i%9 == 1 {
			limits.Steps = 10 + i%60
		}
		codes.add(checkSession(t, heapSession(chance[7*i:7*i+each], 20+i%80), limits))
	})
	codes.hasAtLeast(t, map[int]int{0: 2000, impl.OutFault: 200, impl.OutError: 500, impl.OutBudget: 20, impl.OutEnded: 30})
}

// Texts of every kind, in rows of several, one kind behind the other.
func TestSessionOfEveryText(t *testing.T) {
	t.Parallel()
	texts := sourcesOfAllKinds(60)
	texts = append(texts, deepTexts()...)
	const each = 5
	rows := (len(texts) + each - 1) / each
	var codes sessionCount
	inParallel(rows, func(i int) {
		var inputs []string
		for at := i; at < len(texts); at += rows {
			inputs = append(inputs, texts[at])
		}
		limits := heapLimits(i)
		codes.add(checkSession(t, inputs, limits))
	})
	codes.hasAtLeast(t, map[int]int{0: 60, impl.OutFault: 50, impl.OutError: 40, impl.OutEnded: 1})
}

// What is told of the first texts is the same whatever texts follow.
func TestSessionWhateverFollows(t *testing.T) {
	t.Parallel()
	first := []string{"x = {} write('a') co = coroutine.wrap(function() while true do coroutine.yield({}) end end)", "local y <close> = setmetatable({}, {__close = function() write('closed') end}) error('e', 0)", "x =", "for i = 1, 50 do x[i] = co() end return #x"}
	followers := append([]string{"", "x =", "x = nil co = nil collectgarbage()", "while true do end", "error('e')", "write(('x'):rep(65536), 'y')", "local s = ('x'):rep(60000) while true do s = s .. '' end", "coroutine.yield()", "string = nil _G = nil print = nil"}, alone...)
	for _, pace := range paces() {
		want := bothTell(first, paced(pace))
		for i := range followers {
			inputs := append(append([]string{}, first...), followers[i], followers[(i*7+3)%len(followers)])
			for n, told := range bothTell(inputs, paced(pace)) {
				if len(told) != len(inputs) || !sameOutcomes(told[:len(first)], want[n]) {
					t.Errorf("%s\n%s\nnot\n%s", textsText(inputs), outcomesText(told), outcomesText(want[n]))
				}
			}
		}
	}
}

// A program cut at its statements into texts, with its locals made globals, comes to the same world as by itself.
func TestSessionAsOneText(t *testing.T) {
	t.Parallel()
	parts := []string{
		"x = 1 y = {} ", "function f(n) if n < 1 then return 0 end return n + f(n - 1) end ", "for i = 1, 10 do y[i] = f(i) end ", "co = coroutine.wrap(function() for i, v in ipairs(y) do coroutine.yield(v) end end) ",
		"for i = 1, 3 do write(co(), ' ') end ", "setmetatable(y, {__index = function(t, k) return k end}) ", "write(y[20], y[10], ' ') ", "x = x + co() ", "table.sort(y, function(a, b) return a > b end) ", "write(table.concat(y, ',')) ",
	}
	whole := impl.Run(strings.Join(parts, "")+"return x, #y, co()", plenty())
	for size := 1; size <= len(parts); size++ {
		var inputs []string
		for at := 0; at < len(parts); at += size {
			inputs = append(inputs, strings.Join(parts[at:min(at+size, len(parts))], ""))
		}
		inputs = append(inputs, "return x, #y, co()")
		told := checkSession(t, inputs, plenty())
		output, ticks, made := "", 0, 0
		for _, o := range told {
			output += o.Output
			ticks += o.Ticks
			made += o.Made
		}
		last := told[len(told)-1]
		if output != whole.Output || fmt.Sprint(last.Results) != fmt.Sprint(whole.Results) || ticks != whole.Ticks+len(told)-1 || made != whole.Made || whole.Code != 0 {
			t.Errorf("%s\nwhole: %s", outcomesText(told), outcomeText(whole))
		}
	}
}
