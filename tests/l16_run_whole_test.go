package tests

import (
	"fmt"
	"runtime"
	"slices"
	"strings"
	"sync"
	"testing"

	"loop.example/g00002/impl"
)

// Nothing goes on behind a session, however it ends. (This test isn't parallel to others, whose goroutines would count.)
func TestSessionLeavesNoGoroutine(t *testing.T) {
	before := runtime.NumGoroutine()
	const wait = "for i = 1, 100 do coroutine.resume(coroutine.create(coroutine.yield)) end"
	for _, inputs := range [][]string{
		{}, {"x ="}, {wait}, {wait, wait, "x =", wait}, {wait, "error('e')", wait + " error('e')"}, {wait, "while true do end", wait}, {wait + " while true do end", wait}, {"while true do coroutine.resume(coroutine.create(coroutine.yield)) end", "", "x ="},
		{"co = coroutine.create(function() pcall(function() local x <close> = setmetatable({}, {__close = print}) coroutine.yield() end) end) coroutine.resume(co)", "co = nil", "collectgarbage()"},
		{"co = coroutine.wrap(function() coroutine.yield() while true do end end) co()", wait, "co()", wait}, {"co = coroutine.wrap(function() coroutine.yield() write(('x'):rep(60000)) end) co()", wait, "pcall(co)", wait},
		{"function f() coroutine.resume(coroutine.create(coroutine.yield)) coroutine.wrap(f)() end", "f()", "f()", "coroutine.wrap(f)()"}, {"a = coroutine.wrap(function() b() coroutine.yield() end) b = coroutine.wrap(function() coroutine.yield() end)", "a()", "b()", "a()"},
		many(wait, impl.MaxInputs), many("x =", impl.MaxInputs), many(wait, impl.MaxInputs+1),
	} {
		limits := paced(1)
		limits.Steps, limits.Output = 5000, 50000
		for range 2 {
			impl.EvaluateAll(inputs, limits)
			impl.EvaluateAll(inputs, impl.Limits{})
		}
		waitForGoroutines(t, before)
		now := runtime.NumGoroutine()
		impl.Session(inputs, limits)
		if runtime.NumGoroutine() > now {
			t.Errorf("%s: %d goroutines, %d before", textsText(inputs[:min(3, len(inputs))]), runtime.NumGoroutine(), now)
		}
	}
	waitForGoroutines(t, before)
}

// runAnswers are the answers of all calls of chapter 17 to something, as text.
func runAnswers(inputs []string, limits impl.Limits) string {
	text := outcomesText(impl.Session(inputs, limits)) + outcomesText(impl.EvaluateAll(inputs, limits))
	for _, source := range inputs {
		text += outcomeText(impl.Run(source, limits))
		chunk, _ := impl.Compile(source)
		file, _ := impl.WriteChunk(chunk)
		stops, o := impl.Debug(chunk, limits, []int{1, 2, 3, 4, 5})
		text += outcomeText(impl.RunFile(file, limits)) + stopsText(stops) + outcomeText(o)
	}
	return text
}

// Calls at the same time don't touch each other.
func TestRunsAtTheSameTime(t *testing.T) {
	t.Parallel()
	chance := words(6000)
	var sessions [][]string
	for i := range 12 {
		sessions = append(sessions, grownSession(chance[3*i:3*i+4000], 60, true), heapSession(chance[5*i:5*i+4000], 40))
	}
	sessions = append(sessions, alone, modestTexts(8), heapTexts(8))
	limits := impl.Limits{Steps: 2000, Frames: 50, Output: 2000, Pace: 10}
	var want []string
	for _, inputs := range sessions {
		want = append(want, runAnswers(inputs, limits))
	}
	var group sync.WaitGroup
	for w := range 6 {
		group.Add(1)
		go func() {
			defer group.Done()
			for i := range sessions {
				i = (i + w*5) % len(sessions)
				if runAnswers(sessions[i], limits) != want[i] {
					t.Errorf("%s comes to something else at the same time as others", textsText(sessions[i]))
				}
			}
		}()
	}
	group.Wait()
}

// outcomeTexts are the texts of an outcome.
func outcomeTexts(o impl.Outcome) []string { return append([]string{o.Output, o.Error}, o.Results...) }

// allApart looks that no text of an answer shares memory with one of the others, or with another of the answer.
func allApart(t *testing.T, name string, answer []string, others ...string) {
	t.Helper()
	for i, text := range answer {
		for _, other := range slices.Concat(others, answer[:i]) {
			apart(t, name, text, other)
		}
	}
}

// Chapter 1: answers own their memory.
func TestRunAnswersOwnTheirMemory(t *testing.T) {
	t.Parallel()
	const long = "'a long enough text'"
	inputs := []string{
		"write(" + long + ") return " + long + ", " + long + ", (" + long + "):sub(1)", "write(" + long + ") error(" + long + ", 0)", "x = " + long + " write(x) return x, x, {}, print, write", "return x, x, x:sub(2)", "error(x, 0)",
		"error((next({a_long_enough_name = 1})), 0)", "x = [[" + times("y", 200) + "]] return x", "return x, x", "return (next({a_long_enough_name = 1}))", "return a_long_enough_name",
	}
	for i, source := range inputs {
		inputs[i] = strings.Clone(source)
	}
	for name, tell := range map[string]func() []impl.Outcome{
		"Session": func() []impl.Outcome { return impl.Session(inputs, plenty()) }, "EvaluateAll": func() []impl.Outcome { return impl.EvaluateAll(inputs, plenty()) },
		"Run": func() []impl.Outcome {
			var all []impl.Outcome
			for _, source := range inputs {
				all = append(all, impl.Run(source, plenty()))
			}
			return all
		},
	} {
		first, second := tell(), tell()
		var texts, others []string
		for i := range first {
			texts, others = append(texts, outcomeTexts(first[i])...), append(others, outcomeTexts(second[i])...)
		}
		allApart(t, name, texts, append(others, inputs...)...)
		want := outcomesText(second)
		for _, o := range first[:cap(first)] {
			room := o.Results[:cap(o.Results)]
			for i := range room {
				room[i] = "changed"
			}
		}
		clear(first[:cap(first)])
		if outcomesText(second) != want || outcomesText(tell()) != want {
			t.Errorf("%s answers otherwise when an answer was changed", name)
		}
		// A list that is added to leaves the others as they are.
		for i := range second {
			_ = append(second[i].Results, "more", "and more")
		}
		if outcomesText(second) != want {
			t.Errorf("%s: lists share memory", name)
		}
	}
	file := fileOf(t, compiled(t, inputs[0]))
	first, second := impl.RunFile(file, plenty()), impl.RunFile(file, plenty())
	allApart(t, "RunFile", outcomeTexts(first), outcomeTexts(second)...)
	want := outcomeText(first)
	clear(file)
	if outcomeText(first) != want || outcomeText(second) != want {
		t.Errorf("%s, then %s", want, outcomeText(first))
	}
}

// Chapter 1, of looks: their lists and texts are new, and share nothing with the chunk.
func TestDebugAnswersOwnTheirMemory(t *testing.T) {
	t.Parallel()
	chunk := reread(t, compiled(t, "local a, b = 'a long enough text', 'another text that is longer than forty bytes'\nlocal function f(c)\nlocal d, e, g = c, nil, true\npcall(function(...)\nlocal h = ... end, d)\nend\nf(a) f(b) f(1.5) f(print) f({})"))
	var consts []string
	for _, p := range chunk.Protos {
		for _, c := range p.Consts {
			consts = append(consts, c.Text)
		}
	}
	lines := upTo(9)
	first, _ := impl.Debug(chunk, paced(1), lines)
	second, _ := impl.Debug(chunk, paced(1), lines)
	texts := func(stops []impl.Stop) []string {
		var all []string
		for _, s := range stops {
			for _, v := range s.Frames {
				all = append(all, v.Regs...)
			}
		}
		return all
	}
	if len(texts(first)) < 50 {
		t.Errorf("%s", stopsText(first))
	}
	allApart(t, "Debug", texts(first), append(texts(second), consts...)...)
	want := stopsText(second)
	for _, s := range first[:cap(first)] {
		for _, v := range s.Frames[:cap(s.Frames)] {
			for i := range v.Regs[:cap(v.Regs)] {
				v.Regs[:cap(v.Regs)][i] = "changed"
			}
		}
		clear(s.Frames[:cap(s.Frames)])
	}
	clear(first[:cap(first)])
	for i := range second {
		_ = append(second[i].Frames, impl.View{Kind: 9})
		for j := range second[i].Frames {
			_ = append(second[i].Frames[j].Regs, "more", "and more")
		}
	}
	third, _ := impl.Debug(chunk, paced(1), lines)
	if stopsText(second) != want || stopsText(third) != want {
		t.Errorf("%s\nnot\n%s", stopsText(third), want)
	}
}

// Chapter 1: nothing is written into an argument, nor behind its end.
func TestRunsWriteIntoNoArgument(t *testing.T) {
	t.Parallel()
	chance := words(6000)
	for i := range 25 {
		inputs := append(grownSession(chance[7*i:7*i+4000], 60, true), heapSession(chance[9*i:9*i+4000], 40)...)
		roomy := append(slices.Clone(inputs), many("room", 9)...)
		before := slices.Clone(roomy)
		limits := heapLimits(i)
		impl.Session(roomy[:len(inputs)], limits)
		impl.EvaluateAll(roomy[:len(inputs)], limits)
		if !slices.Equal(roomy, before) {
			t.Errorf("%s", textsText(roomy))
		}
		for _, source := range inputs {
			chunk, fault := impl.Compile(source)
			if fault.Code != 0 {
				continue
			}
			file := append(fileOf(t, chunk), many(byte(77), 9)...)
			kept := slices.Clone(file)
			impl.RunFile(file[:len(file)-9], limits)
			impl.RunFile(file, limits)
			if !slices.Equal(file, kept) {
				t.Errorf("%s: the file is changed", source)
			}
			spare, told := spacious(chunk)
			lines := append(upTo(120), many(77, 9)...)
			chunkBefore, linesBefore := told(), slices.Clone(lines)
			impl.Debug(spare, limits, lines[:5])
			impl.Debug(spare, limits, lines[:100])
			impl.Debug(spare, limits, lines[:120])
			if !slices.EqualFunc(told(), chunkBefore, sameProto) || !slices.Equal(lines, linesBefore) {
				t.Errorf("%s: chunk or lines are changed", source)
			}
		}
	}
}

// Chapter 1: an answer comes at every argument, the same again.
func TestRunsOfAnything(t *testing.T) {
	t.Parallel()
	texts := slices.Concat(randomTexts(400, 12), []string{times("x", impl.MaxSource), times("x", impl.MaxSource+1), times("(", 40000), "\x00", "\xff\xfe", times("f()", 6666), "x = {" + times("{},", 4000) + "}", "return " + times("-", 150) + "1"})
	limits := impl.Limits{Steps: 400, Frames: 20, Output: 100, Pace: 1}
	inParallel(len(texts), func(i int) {
		checkRun(t, texts[i], limits)
	})
	for from := 0; from < len(texts); from += 50 {
		inputs := texts[from:min(from+50, len(texts))]
		checkSession(t, inputs, limits)
	}
	// Bytes of all sorts as files.
	row := words(3000)
	for i := range 300 {
		file := []byte("chunk-01")
		for _, w := range row[i*9 : i*9+i%40] {
			file = append(file, byte(w>>30))
		}
		for _, bytes := range [][]byte{file, withSum(file), file[i%9:]} {
			want := impl.Outcome{Code: impl.OutChunk}
			if chunk, code := impl.ReadChunk(bytes); code == 0 {
				want = impl.Exec(chunk, limits)
			}
			checkOutcome(t, fmt.Sprintf("%x", bytes), impl.RunFile(bytes, limits), want)
		}
	}
	// The greatest chunks.
	long := longest(func(int) impl.Instr { return tick })
	for _, lines := range [][]int{upTo(100), upTo(20000), many(5, 20000)} {
		stops, o := impl.Debug(long, paced(1), lines)
		if o.Code != 0 || o.Ticks != impl.MaxCode || len(stops) == 0 || len(stops) > impl.MaxStops || len(stops[0].Frames[0].Regs) != impl.MaxRegs {
			t.Errorf("%d stops, %s", len(stops), outcomeText(o))
		}
	}
	checkOutcome(t, "the longest", impl.RunFile(fileOf(t, long), paced(1)), impl.Exec(long, paced(1)))
}
