package tests

import (
	"fmt"
	"math"
	"slices"
	"strconv"
	"strings"
	"testing"

	"loop.example/g00002/impl"
)

// runPuts holds what Run of a text puts out, at each pace.
func runPuts(t *testing.T, source, output string) {
	t.Helper()
	checkRun(t, source, paced(paces()[len(source)%4]))
	for _, pace := range paces() {
		if got := impl.Run(source, paced(pace)); got.Code != 0 || got.Output != output {
			t.Errorf("pace %d: %s\n%s\nnot %q", pace, source, outcomeText(got), output)
			return
		}
	}
}

// runGives holds what Run of a text tells, as toldShort has it.
func runGives(t *testing.T, source string, limits impl.Limits, want string) {
	t.Helper()
	if got := toldShort(checkRun(t, source, limits)); got != want {
		t.Errorf("%s with %+v\n%s\nnot %s", short(source), limits, short(got), short(want))
	}
}

// litSource writes a plain value as an expression.
func litSource(l impl.Lit) string {
	switch l.Kind {
	case impl.LitBool:
		return strconv.FormatBool(l.Int == 1)
	case impl.LitInt:
		return fmt.Sprintf("0x%016x", uint64(l.Int))
	case impl.LitFloat:
		f := math.Float64frombits(l.Bits)
		switch {
		case math.IsNaN(f):
			return "(0/0)"
		case math.IsInf(f, 1):
			return "math.huge"
		case math.IsInf(f, -1):
			return "(-math.huge)"
		}
		return "(" + impl.FormatNumber(impl.Number{IsFloat: true, Bits: l.Bits}) + ")"
	case impl.LitText:
		text := ""
		for _, b := range []byte(l.Text) {
			text += fmt.Sprintf("\\%03d", b)
		}
		return "'" + text + "'"
	}
	return "nil"
}

// Promise 2: numbers made at random, in expressions that are folded and in ones that aren't (promise 7), against chapter 2.
func TestRunNumbersAsArith(t *testing.T) {
	t.Parallel()
	signs := strings.Fields("+ - * / % // ^ & | ~ << >>")
	messages := map[int]string{impl.NumZero: "1: attempt to divide by zero", impl.NumRange: "1: exponent out of range", impl.NumWhole: "1: number has no integer representation"}
	failed := 0
	var texts, wants []string
	source, want := "", ""
	eachCall(900, func(m *callMaker, name string) {
		a, b := m.letter('n'), m.letter('n')
		if m.pick(3) == 0 {
			b = intLit(m.pick(70) - 3)
		}
		if !isNumberLit(a) || !isNumberLit(b) {
			return
		}
		left, right := litSource(a), litSource(b)
		leftText, rightText := modelShown(a), modelShown(b)
		source += "a, b = " + left + ", " + right + " "
		for i, sign := range signs {
			source += fmt.Sprintf("s(function() return %s %s %s end) s(function() return a %s b end) ", left, sign, right, sign)
			text, code := impl.Arith(i+1, leftText, rightText)
			if code != 0 {
				failed++
				text = messages[code]
			}
			want += text + "\n" + text + "\n"
		}
		for i, sign := range []string{"-", "~"} {
			source += fmt.Sprintf("s(function() return %s %s end) s(function() return %s a end) ", sign, left, sign)
			text, code := impl.Arith(impl.NumNeg+i, leftText, "")
			if code != 0 {
				text = messages[code]
			}
			want += text + "\n" + text + "\n"
		}
		order, _ := impl.Compare(leftText, rightText)
		for _, c := range []struct {
			sign  string
			holds bool
		}{{"<", order == -1}, {"<=", order == -1 || order == 0}, {">", order == 1}, {">=", order == 1 || order == 0}, {"==", order == 0}, {"~=", order != 0}} {
			source += fmt.Sprintf("t(%s %s %s) t(a %s b) ", left, c.sign, right, c.sign)
			want += fmt.Sprintf("%t\n%t\n", c.holds, c.holds)
		}
		whole, code := impl.ToInteger(leftText)
		if code != 0 {
			whole = "nil"
		}
		source += "t(math.tointeger(a)) "
		want += whole + "\n"
		if len(source) > 20000 {
			texts, wants = append(texts, source), append(wants, want)
			source, want = "", ""
		}
	})
	inParallel(len(texts), func(i int) {
		text := "local a, b local function t(v) write(rawtostring(v), '\\n') end local function s(f) t((select(2, pcall(f)))) end " + texts[i]
		runPuts(t, text, wants[i])
	})
	if len(texts) < 50 || failed < 500 {
		t.Errorf("%d texts, %d failures", len(texts), failed)
	}
}

// Promise 7: an expression of constants gives the same where each of them comes from a function, so that nothing is folded.
func TestRunFoldedAndNot(t *testing.T) {
	t.Parallel()
	const count, each = 3000, 150
	row := words(3*count + each)
	failed, folded := make([]int, count), make([]int, count)
	inParallel(count, func(i int) {
		g := grower{chance: row[3*i : 3*i+each]}
		expression := g.constants(1 + i%5)
		tokens, _ := impl.Lex(expression)
		hidden := "local function v(...) return ... end return "
		for n, token := range tokens[:len(tokens)-1] {
			word := expression[token.At:tokens[n+1].At]
			if token.Kind == impl.TokInt || token.Kind == impl.TokFloat {
				trimmed := strings.TrimRight(word, " \n")
				word = "v(" + trimmed + ")" + word[len(trimmed):]
			}
			hidden += word
		}
		limits := paced(paces()[i%4])
		got, want := impl.Run("return "+expression, limits), impl.Run(hidden, limits)
		if got.Code != want.Code || got.Error != want.Error || !slices.Equal(got.Results, want.Results) || got.Made != want.Made || got.Code == impl.OutFault {
			t.Errorf("%q\n%s, where nothing is folded\n%s", expression, outcomeText(got), outcomeText(want))
		}
		if got.Code != 0 {
			failed[i]++
		}
		if len(compiled(t, "return "+expression).Protos[0].Code) < len(compiled(t, "return "+hidden[len("local function v(...) return ... end return "):]).Protos[0].Code)/2 {
			folded[i]++
		}
	})
	if sumOf(failed) < 300 || sumOf(folded) < 500 {
		t.Errorf("%d fail, %d are folded", sumOf(failed), sumOf(folded))
	}
}

func sumOf(list []int) int {
	sum := 0
	for _, n := range list {
		sum += n
	}
	return sum
}

// Promise 17: primitives in a program that is run give what CallPlain gives, or fail with its message.
func TestRunPrimitivesAsCallPlain(t *testing.T) {
	t.Parallel()
	const show = "local function s(...) for i = 1, select('#', ...) do local v = (select(i, ...)) write(type(v), math.type(v) or '', ' ', rawtostring(v), ';') end write('\\n') end "
	var texts, wants []string
	source, want := show, ""
	failed := map[string]int{}
	eachCall(12000, func(m *callMaker, name string) {
		args := m.arguments(name)
		var written []string
		for _, arg := range args {
			written = append(written, litSource(arg))
		}
		values, message, code := impl.CallPlain(name, args)
		call := "s(pcall(" + strings.Join(append([]string{name}, written...), ", ") + ")) "
		told := "boolean true;"
		if code != 0 {
			failed[name]++
			told = "boolean false;string " + message + ";"
		}
		for _, v := range values {
			kind := runType(runOfLit(v))
			switch v.Kind {
			case impl.LitInt:
				kind += "integer"
			case impl.LitFloat:
				kind += "float"
			}
			told += kind + " " + modelShown(v) + ";"
		}
		if len(told) > 2000 || len(values) > 20 || len(call) > 20000 {
			return
		}
		source += call
		want += told + "\n"
		if len(source) > 15000 {
			texts, wants = append(texts, source), append(wants, want)
			source, want = show, ""
		}
	})
	inParallel(len(texts), func(i int) {
		limits := paced(paces()[i%4])
		if got := checkRun(t, texts[i], limits); got.Code != 0 || got.Output != wants[i] {
			at := 0
			for at < min(len(got.Output), len(wants[i])) && got.Output[at] == wants[i][at] {
				at++
			}
			t.Errorf("%s\nbehind %d bytes: %s\nwant %s", outcomeText(got), at, short(got.Output[at:]), short(wants[i][at:]))
		}
	})
	if len(texts) < 30 || len(failed) != len(plainNames()) {
		t.Errorf("%d texts, %d of %d primitives have failed", len(texts), len(failed), len(plainNames()))
	}
	// Without pcall the message has its place.
	for _, r := range [][2]string{{"type()", "bad argument #1 to 'type' (value expected)"}, {"string.rep()", "bad argument #1 to 'string.rep' (string expected, got no value)"}, {"('x'):find('[')", "malformed pattern"}} {
		runGives(t, "\nreturn "+r[0], paced(1), "! 2: "+r[1])
	}
}

// Promise 16: what a program finds is the first of what it goes through, and what chapter 11 finds; each match put in its own
// place gives the subject.
func TestRunPatterns(t *testing.T) {
	t.Parallel()
	const ahead = "local function look(s, p) local n, first = 0 for m in s:gmatch('()' .. p) do n = n + 1 first = first or m end local from, to = s:find(p) local text, count = s:gsub(p, '%0') local same, again = s:gsub(p, function() end) " +
		"write(rawtostring(from), ',', rawtostring(to), ' ', rawtostring(from == first), ' ', n, ' ', rawtostring(text == s and same == s), ' ', count, ' ', again, '\\n') end "
	var texts, wants []string
	source, want, matched := ahead, "", 0
	eachPattern(4000, func(g *patternGrower) {
		pattern := g.pattern("")
		subject := g.subject(14)
		all, code := impl.FindAll(subject, pattern)
		// (What stands ahead of a pattern for its place would shift the numbers of captures, and keep ^ from being the first.)
		if code != 0 || strings.Contains(pattern, "%") || strings.HasPrefix(pattern, "^") {
			return
		}
		from, to := "nil", "nil"
		if len(all) > 0 {
			from, to = strconv.Itoa(all[0].From+1), strconv.Itoa(all[0].To)
			matched++
		}
		source += "look(" + litSource(textLit(subject)) + ", " + litSource(textLit(pattern)) + ") "
		want += fmt.Sprintf("%s,%s true %d true %d %d\n", from, to, len(all), len(all), len(all))
		if len(source) > 5000 {
			texts, wants = append(texts, source), append(wants, want)
			source, want = ahead, ""
		}
	})
	inParallel(len(texts), func(i int) { runPuts(t, texts[i], wants[i]) })
	if len(texts) < 10 || matched < 500 {
		t.Errorf("%d texts, %d matches", len(texts), matched)
	}
}

// Promise 18: what is sorted, of pairs whose first halves are compared; and the order of keys.
func TestRunSortAndPairs(t *testing.T) {
	t.Parallel()
	row := words(4000)
	for round := range 25 {
		var pairs []int
		list := ""
		for i := range round * 2 {
			pairs = append(pairs, int(row[round*60+i]>>20%7)*1000+i)
			list += fmt.Sprintf("{%d, %d},", pairs[i]/1000, i)
		}
		sorted := slices.Clone(pairs)
		slices.SortStableFunc(sorted, func(a, b int) int { return a/1000 - b/1000 })
		source := "local t, n = {" + list + "}, 0 local function less(a, b) n = n + 1 if n == STOP then error('stop', 0) end return a[1] < b[1] end " +
			"write(rawtostring(pcall(table.sort, t, less)), ' ') for i = 1, #t do write(t[i][2], ' ') end"
		want, kept := "true ", "false "
		for i, pair := range sorted {
			want += strconv.Itoa(pair%1000) + " "
			kept += strconv.Itoa(pairs[i]%1000) + " "
		}
		runPuts(t, strings.Replace(source, "STOP", "0", 1), want)
		if round > 0 {
			runPuts(t, strings.Replace(source, "STOP", strconv.Itoa(round), 1), kept)
		}
	}
	// Keys come and go; those without a value are taken out when an entry is added to at least 16 of which more than half have none.
	for round := range 40 {
		source, want := "local t = {} ", ""
		var keys []int
		has := map[int]bool{}
		for i := range 60 {
			w := row[(round*53+i*7)%4000] >> 13
			key := int(w % 30)
			if w>>20%3 == 0 {
				source += fmt.Sprintf("t[%d] = nil ", key)
				has[key] = false
				continue
			}
			source += fmt.Sprintf("t[%d] = %d ", key, i)
			if !slices.Contains(keys, key) {
				bare := 0
				for _, k := range keys {
					if !has[k] {
						bare++
					}
				}
				if len(keys) >= 16 && 2*bare > len(keys) {
					keys = slices.DeleteFunc(keys, func(k int) bool { return !has[k] })
				}
				keys = append(keys, key)
			}
			has[key] = true
		}
		for _, k := range keys {
			if has[k] {
				want += strconv.Itoa(k) + " "
			}
		}
		runPuts(t, source+"for k, v in pairs(t) do write(k, ' ') end", want)
	}
}

// Promise 20: coroutines resumed in any order go on each where it was.
func TestRunThreadsInAnyOrder(t *testing.T) {
	t.Parallel()
	const makes = `local t = {} for i = 1, 6 do t[i] = coroutine.create(function(a)
		local sum = a for j = 1, i do sum = sum + coroutine.yield(i, j, sum) if i == 5 and j == 3 then error("stop" .. sum, 0) end end return "end", i, sum end) end
		local function go(i, v) print(coroutine.status(t[i]), coroutine.resume(t[i], v)) end `
	row := words(500)
	for round := range 30 {
		source, want := makes, ""
		turns, sums := make([]int, 7), make([]int, 7)
		for step := range 40 {
			i, v := 1+int(row[(round*7+step)%500]>>20%6), int(row[(round*11+step*3)%500]>>30%10)
			source += fmt.Sprintf("go(%d, %d) ", i, v)
			turns[i]++
			sums[i] += v
			last := i + 1
			if i == 5 {
				last = 4
			}
			switch {
			case turns[i] > last:
				want += "dead\tfalse\tcannot resume a dead coroutine\n"
			case turns[i] == last && i == 5:
				want += fmt.Sprintf("suspended\tfalse\tstop%d\n", sums[i])
			case turns[i] == last:
				want += fmt.Sprintf("suspended\ttrue\tend\t%d\t%d\n", i, sums[i])
			default:
				want += fmt.Sprintf("suspended\ttrue\t%d\t%d\t%d\n", i, turns[i], sums[i])
			}
		}
		runPuts(t, source, want)
	}
}

// Promise 21: what is to be closed is closed by whatever way a block is left, and a protected call that fails changes nothing
// of its callers.
func TestRunClosing(t *testing.T) {
	t.Parallel()
	const ahead = closer + "local function f(k) return c(k, function() error(k .. '!', 0) end) end "
	for _, r := range [][2]string{
		{"do local a <close> = c('a') local b <close> = c('b') write('in ') end write('out')", "in b(nil) a(nil) out"},
		{"for i = 1, 3 do local a <close> = c(i) if i == 2 then break end end write('out')", "1(nil) 2(nil) out"},
		{"do local a <close> = c('a') do local b <close> = c('b') goto out end end ::out:: write('out')", "b(nil) a(nil) out"},
		{"local i = 0 ::again:: i = i + 1 local a <close> = c(i) if i < 3 then goto again end write('end ')", "1(nil) 2(nil) end 3(nil) "},
		{"repeat local a <close> = c('a') until write('until ') or true", "until a(nil) "},
		{"local function g() local a <close> = c('a') do local b <close> = c('b') return 1, 2 end end print(g())", "b(nil) a(nil) 1\t2\n"},
		{"print(pcall(function() local a <close> = c('a') do local b <close> = c('b') error('e', 0) end end))", "b(e) a(e) false\te\n"},
		{"print(pcall(function() local a <close> = f('a') local b <close> = c('b') local d <close> = f('d') error('e', 0) end))", "d(e) b(d!) a(d!) false\ta!\n"},
		{"print(pcall(function() local a <close> = f('a') return 1 end))", "a(nil) false\ta!\n"},
		{"local co = coroutine.create(function() local a <close> = c('a') pcall(function() local b <close> = f('b') coroutine.yield() end) end) coroutine.resume(co) print(coroutine.close(co))", "b(nil) a(b!) false\tb!\n"},
		{"local co = coroutine.wrap(function() local a <close> = c('a') coroutine.yield(1) return 2 end) write(co(), ' ') write(co(), ' ')", "1 a(nil) 2 "},
		{"local co = coroutine.create(function() local a <close> = c('a') coroutine.yield() error('e', 0) end) coroutine.resume(co) print(coroutine.resume(co))", "a(e) false\te\n"},
		{"local x, t = 1, {1} local a <close> = c('a') local function g(n) local x = n + x t[1] = x if n > 3 then error('e', 0) end g(n + 1) end write(rawtostring(pcall(g, 1))) write(x, t[1], ' ')", "false15 a(nil) "},
		{"local r = {} for i = 1, 3 do local ok, e = pcall(function(...) local a, b = ... local d <close> = c(i) error(a + b, 0) end, i, 10) r[i] = e end write(r[1], ' ', r[2], ' ', r[3])", "1(11) 2(12) 3(13) 11 12 13"},
	} {
		runPuts(t, ahead+r[0], r[1])
	}
	// Of the text itself, by an error and by a return.
	for source, want := range map[string]string{
		"local a <close> = c('a') local b <close> = c('b') error('e')": "b(1: e) a(1: e)  ! 1: e", "local a <close> = c('a') return 1, 2": "a(nil)  = 1 2", "local a <close> = f('a') return 1": "a(nil)  ! a!",
	} {
		runGives(t, ahead+source, paced(1), want)
	}
}

// Promise 22: frames just at the limit, of closures and of pcalls; calls in the last place take none.
func TestRunFrames(t *testing.T) {
	t.Parallel()
	for _, frames := range []int{1, 2, 3, 7, 20, 199, 200} {
		limits := paced(frames % 3)
		limits.Frames = frames
		n := strconv.Itoa(frames)
		runGives(t, "local n = 0 local function f() n = n + 1 return 1 + f() end local ok, e = coroutine.resume(coroutine.create(f)) return n, e", limits, "= "+n+" 1: stack overflow")
		runGives(t, "local function f(k) if k == 0 then return 'end' end return f(k - 1) end return f(1000)", limits, "= end")
		runGives(t, "local function f(k) if k == 0 then return 'end' end return f(k - 1) end return (f(1000))", limits, map[bool]string{true: "= end", false: "! 1: stack overflow"}[frames > 1])
		runGives(t, "local n = 0 local function f(k) n = n + 1 if k > 1 then f(k - 1) end end f("+strconv.Itoa(max(frames-1, 1))+") return n", limits,
			map[bool]string{true: "= " + strconv.Itoa(frames-1), false: "! 1: stack overflow"}[frames > 1])
		runGives(t, "local function f(k) if k > 1 then f(k - 1) end end f("+n+") return 'no'", limits, "! 1: stack overflow")
		if frames > 1 {
			runGives(t, "local t = setmetatable({}, {__call = pcall}) return select('#', t()), (select(-1, t()))", limits, "= "+n+" stack overflow")
			runGives(t, "local function f() return 1 + f() end pcall(f) pcall(f) local n = 0 local function g() n = n + 1 return 1 + g() end pcall(g) return n", limits, "= "+strconv.Itoa(frames-2))
		}
	}
}

// checkRunSteps holds a run against those with just its steps and with one fewer (promise 23).
func checkRunSteps(t *testing.T, source string, limits impl.Limits) impl.Outcome {
	t.Helper()
	whole := impl.Run(source, limits)
	if whole.Code == impl.OutBudget || whole.Ticks == 0 {
		return whole
	}
	limits.Steps = whole.Ticks
	if just := impl.Run(source, limits); !sameOutcome(just, whole) {
		t.Errorf("%s with %+v\n%s, with just its steps\n%s", short(source), limits, outcomeText(whole), outcomeText(just))
	}
	if limits.Steps--; limits.Steps == 0 {
		return whole
	}
	fewer := impl.Run(source, limits)
	want := impl.Outcome{Code: impl.OutBudget, Output: fewer.Output, Ticks: limits.Steps, Made: fewer.Made, Live: fewer.Live, Bytes: fewer.Bytes}
	if !sameOutcome(fewer, want) || !strings.HasPrefix(whole.Output, fewer.Output) || fewer.Made > whole.Made {
		t.Errorf("%s with %+v\n%s, with one step fewer\n%s", short(source), limits, outcomeText(whole), outcomeText(fewer))
	}
	return whole
}

func TestRunSteps(t *testing.T) {
	t.Parallel()
	texts := sourcesOfAllKinds(150)
	ran := make([]int, len(texts))
	inParallel(len(texts), func(i int) {
		if checkRunSteps(t, texts[i], heapLimits(i)).Ticks > 5 {
			ran[i]++
		}
	})
	if sumOf(ran) < 200 {
		t.Errorf("but %d texts take steps", sumOf(ran))
	}
	// Each step of a short text: fewer end it there, having put out a beginning.
	const source = "write('a') for i = 1, 3 do write(i) local f = function() write('f') end f() end while false do end repeat write('r') until true do local x = 1 end print('end')"
	whole := checkRun(t, source, paced(1))
	output := ""
	for steps := 1; steps < whole.Ticks; steps++ {
		limits := paced(1)
		limits.Steps = steps
		got := checkRun(t, source, limits)
		if got.Code != impl.OutBudget || got.Ticks != steps || !strings.HasPrefix(got.Output, output) || !strings.HasPrefix(whole.Output, got.Output) {
			t.Errorf("%d steps: %s", steps, outcomeText(got))
		}
		output = got.Output
	}
	if whole.Code != 0 || whole.Output != "a1f2f3frend\n" || output != "a1f2f3frend" {
		t.Errorf("%s", outcomeText(whole))
	}
}

// Promise 30: a text loaded by a program and called does what it does by itself, with two steps and its own bytes more.
func TestRunLoadedAsAlone(t *testing.T) {
	t.Parallel()
	texts := slices.Concat(alone, modestTexts(250))
	inParallel(len(texts), func(i int) {
		source := texts[i]
		limits := impl.Limits{Steps: 4000, Frames: 60, Output: 3000, Pace: paces()[i%4]}
		want := impl.Run(source, limits)
		if want.Code == impl.OutFault || want.Code == impl.OutMade || want.Made+len(source) > impl.MaxMade || strings.Contains(source, "]=====]") {
			return
		}
		limits.Steps += 2
		got := impl.Run("return load("+bracketed(source)+")()", limits)
		got.Made -= len(source)
		got.Ticks -= 2
		unnumber(&got)
		unnumber(&want)
		if !sameBut(got, want) {
			t.Errorf("%s\nloaded: %s\nalone: %s", source, outcomeText(got), outcomeText(want))
		}
	})
}

// Promise 31: closures share the variables that they name, each turn of a loop having its own.
func TestRunClosuresOfLoops(t *testing.T) {
	t.Parallel()
	const ahead = "local get, set = {}, {} local function pair(i, g, s) get[i], set[i] = g, s end local function show(n) for i = 1, n do write(get[i](), ' ') end end "
	for _, r := range [][2]string{
		{"for i = 1, 3 do pair(i, function() return i end, function(v) i = v end) end set[2](9) show(3)", "1 9 3 "},
		{"for i = 3, 1, -1 do pair(i, function() i = i * 10 return i end) end show(3) show(3)", "10 20 30 100 200 300 "},
		{"for i = 1.5, 3.5 do pair(i // 1, function() return i end) end write(get[1](), ' ', get[2](), ' ', get[3]())", "1.5 2.5 3.5"},
		{"for k, v in next, {'a', 'b', 'c'} do pair(k, function() return v end, function(x) v = x end) end set[1]('z') show(3)", "z b c "},
		{"for k, v in ipairs({'a', 'b'}) do pair(k, function() return k .. v end, function(x) k, v = x, x end) end set[2]('y') show(2)", "1a yy "},
		{"local n = 0 while n < 3 do n = n + 1 local m = n pair(n, function() return m + n end, function(v) m = v end) end set[1](100) show(3)", "103 5 6 "},
		{"local n = 0 repeat n = n + 1 local m = n pair(n, function() return m end) until m == 3 show(3)", "1 2 3 "},
		{"local n = 0 ::again:: n = n + 1 local m = n * n pair(n, function() return m end) if n < 3 then goto again end show(3)", "1 4 9 "},
		{"for i = 1, 3 do local x = i if i == 2 then goto on end pair(i, function() return x end) ::on:: end write(get[1](), get[3]())", "13"},
		{"for i = 1, 2 do for j = 1, 2 do pair(2 * i + j - 2, function() return i .. j end, function(v) i = v end) end end set[1](7) show(4)", "71 72 21 22 "},
		{"local x = 0 pair(1, function() return x end, function(v) x = v end) pair(2, function() x = x + 1 return x end) set[1](5) show(2) show(1) write(x)", "5 6 6 6"},
		{"local function make() local n = 0 return function() n = n + 1 return n end end local a, b = make(), make() write(a(), a(), b(), a())", "1213"},
		{"for i = 1, 3 do pair(i, coroutine.wrap(function() while true do coroutine.yield(i) i = i + 10 end end)) end show(3) show(3)", "1 2 3 11 12 13 "},
		{"for i = 1, 3 do if i == 2 then break end pair(i, function() return i end) end write(get[1]())", "1"},
		{"for i = 1, 2 do local ok = pcall(function() local x = i pair(i, function() return x end) error() end) end show(2)", "1 2 "},
	} {
		runPuts(t, ahead+r[0], r[1])
	}
}
