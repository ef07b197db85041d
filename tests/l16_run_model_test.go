package tests

import (
	"fmt"
	"slices"
	"strings"
	"testing"

	"loop.example/g00002/impl"
)

// The models of chapters 13 and 14 with several texts, one behind the other, and with looks at their calls.

// modelSession is Session, or EvaluateAll below no machine, with limits that are right and not too many texts.
func modelSession(inputs []string, limits impl.Limits, onMachine bool) []impl.Outcome {
	var h *runHeap
	if onMachine {
		h = newRunHeap()
	}
	m := newRunModel(limits, h)
	if onMachine {
		h.begin(m)
	}
	defer m.stopThreads()
	var all []impl.Outcome
	over := false
	for _, source := range inputs {
		_, fault := impl.Compile(source)
		switch {
		case fault.Code != 0:
			all = append(all, impl.Outcome{Code: impl.OutFault, Fault: fault})
			continue
		case over:
			all = append(all, impl.Outcome{Code: impl.OutEnded})
			continue
		}
		m.ticks, m.made, m.output = 0, 0, strings.Builder{}
		told := m.tellsOne(m.textFunction(source))
		if onMachine {
			told.Live, told.Bytes = h.live(), h.bytes()
		}
		all = append(all, told)
		over = told.Code > impl.OutError
	}
	return all
}

// looksAt has the model note a stop at each Tick of one of the lines, as many as are told.
func (m *runModel) looksAt(lines []int) *[]impl.Stop {
	var stops []impl.Stop
	counted := map[int]bool{}
	for i, line := range lines {
		if i < 100 {
			counted[line] = true
		}
	}
	m.looks = func(c *runCall) {
		if !counted[c.line] || len(stops) == 100 {
			return
		}
		stop := impl.Stop{Thread: c.thread.number, Line: c.line}
		calls := c.thread.calls
		for n := len(calls); n > 0 && n > len(calls)-20; n-- {
			stop.Frames = append(stop.Frames, calls[n-1].view())
		}
		stops = append(stops, stop)
	}
	return &stops
}

func (c *runCall) view() impl.View {
	if c.final {
		return impl.View{Kind: 2}
	}
	if c.closure == nil {
		return impl.View{Kind: 1}
	}
	v := impl.View{Line: c.line}
	for _, register := range c.regs {
		v.Regs = append(v.Regs, fmt.Sprintf("%.40s", asBytes(runShown(register))))
	}
	return v
}

// asBytes has a text cut by its bytes when it is printed.
type asBytes string

func (b asBytes) Format(f fmt.State, _ rune) {
	most, _ := f.Precision()
	f.Write([]byte(b)[:min(len(b), most)])
}

func sameStops(a, b []impl.Stop) bool {
	return slices.EqualFunc(a, b, func(a, b impl.Stop) bool {
		return a.Thread == b.Thread && a.Line == b.Line && slices.EqualFunc(a.Frames, b.Frames, func(a, b impl.View) bool {
			return a.Kind == b.Kind && a.Line == b.Line && slices.Equal(a.Regs, b.Regs)
		})
	})
}

// stopText tells a stop: thread and line, then its frames from the top, each a closure's line with its registers in
// parentheses, pcall or final.
func stopText(s impl.Stop) string {
	text := fmt.Sprintf("%d@%d:", s.Thread, s.Line)
	for _, v := range s.Frames {
		switch v.Kind {
		case 0:
			text += fmt.Sprintf(" %d(%s)", v.Line, strings.Join(v.Regs, ", "))
		case 1:
			text += " pcall"
		case 2:
			text += " final"
		default:
			text += fmt.Sprintf(" kind %d", v.Kind)
		}
		if v.Kind != 0 && (v.Line != 0 || v.Regs != nil) {
			text += fmt.Sprintf(" at line %d with %q", v.Line, v.Regs)
		}
	}
	return text
}

func stopsText(stops []impl.Stop) string {
	var rows []string
	for _, s := range stops {
		rows = append(rows, stopText(s))
	}
	return strings.Join(rows, "\n")
}

// someLines are lines to look at in a chunk, by a number: all that its steps have, some of them, with lines of the prelude and
// with lines that no step has.
func someLines(chunk impl.Chunk, n int) []int {
	var lines []int
	for _, p := range chunk.Protos {
		for at, i := range p.Code {
			if i.Op == impl.InsTick && !slices.Contains(lines, p.Lines[at]) {
				lines = append(lines, p.Lines[at])
			}
		}
	}
	slices.Sort(lines)
	switch n % 4 {
	case 1:
		return lines[len(lines)/2:]
	case 2:
		return append([]int{53, 56, 0, -1, 56, 23, 1 << 40}, lines[:len(lines)/3]...)
	case 3:
		slices.Reverse(lines)
		return append(slices.Clone(lines), lines...)
	}
	return lines
}

// checkLooks holds Debug against the stops that are wanted, the outcome of Exec, and the steps of a trace (promise 29).
func checkLooks(t *testing.T, name string, chunk impl.Chunk, limits impl.Limits, lines []int, want []impl.Stop, events []impl.Event, o impl.Outcome) {
	t.Helper()
	stops, told := impl.Debug(chunk, limits, lines)
	if !sameOutcome(told, o) {
		t.Errorf("%s with %+v\n%s, looked at:\n%s", short(name), limits, outcomeText(o), outcomeText(told))
	}
	if !sameStops(stops, want) {
		at := 0
		for at < min(len(stops), len(want)) && sameStops(stops[at:at+1], want[at:at+1]) {
			at++
		}
		t.Errorf("%s with %+v at %v: %d stops, want %d; the first %d are the same, then come\n%s\nnot\n%s", short(name), limits, lines, len(stops), len(want), at,
			stopsText(stops[at:min(at+1, len(stops))]), stopsText(want[at:min(at+1, len(want))]))
	}
	checkStopsByTrace(t, name, lines, stops, events)
}

// checkStopsByTrace holds looks against the steps at their lines.
func checkStopsByTrace(t *testing.T, name string, lines []int, stops []impl.Stop, events []impl.Event) {
	t.Helper()
	lines = lines[:min(len(lines), impl.MaxLines)]
	steps := 0
	for _, e := range events {
		if e.Kind != impl.EventStep || !slices.Contains(lines, e.Line) || steps == impl.MaxStops {
			continue
		}
		if steps == len(stops) {
			t.Errorf("%s: %d stops at %v, but there are more steps", short(name), len(stops), lines)
			return
		}
		s := stops[steps]
		steps++
		closures := 0
		for _, v := range s.Frames {
			if v.Kind == 0 {
				closures++
			}
		}
		isWhole := len(s.Frames) < impl.MaxViews
		if s.Thread != e.Thread || s.Line != e.Line || s.Frames[0].Kind != 0 || s.Frames[0].Line != e.Line || isWhole && closures != e.Depth || closures > e.Depth {
			t.Errorf("%s: the stop %s at the step %+v", short(name), stopText(s), e)
		}
	}
	if len(events) < impl.MaxEvents && len(stops) != steps || len(stops) > impl.MaxStops {
		t.Errorf("%s: %d stops at %v, %d steps", short(name), len(stops), lines, steps)
	}
}

// checkRun holds Run of a text against Exec of its code, RunFile of its file, that of its shorter code, and sessions of just
// this text; and promise 19.
func checkRun(t *testing.T, source string, limits impl.Limits) impl.Outcome {
	t.Helper()
	got := impl.Run(source, limits)
	same := func(what string, other impl.Outcome) {
		t.Helper()
		if !sameOutcome(got, other) {
			t.Errorf("%s with %+v\nrun: %s\n%s: %s", short(source), limits, outcomeText(got), what, outcomeText(other))
		}
	}
	if got.Ticks > limits.Steps || len(got.Output) > limits.Output || len(got.Results) > impl.MaxResults {
		t.Errorf("%s with %+v\n%s", short(source), limits, outcomeText(got))
	}
	evaluated := impl.Evaluate(source, limits)
	if all := impl.EvaluateAll([]string{source}, limits); len(all) != 1 || !sameOutcome(all[0], evaluated) {
		t.Errorf("%s with %+v\n%s, in a session:\n%s", short(source), limits, outcomeText(evaluated), outcomesText(all))
	}
	if all := impl.Session([]string{source}, limits); len(all) == 1 {
		same("in a session", all[0])
	} else {
		t.Errorf("%s: %d outcomes", short(source), len(all))
	}
	chunk, fault := impl.Compile(source)
	if fault.Code != 0 {
		same("by Compile", impl.Outcome{Code: impl.OutFault, Fault: fault})
		same("by Evaluate", evaluated)
		return got
	}
	same("by Exec", impl.Exec(chunk, limits))
	same("from a file", impl.RunFile(fileOf(t, chunk), limits))
	shorter, _ := impl.Optimize(chunk)
	same("made shorter, from a file", impl.RunFile(fileOf(t, shorter), limits))
	if limits.Memory == 0 && !hangsOnCollector(source) && !sameBut(got, evaluated) {
		t.Errorf("%s with %+v\nrun: %s\nevaluated: %s", short(source), limits, outcomeText(got), outcomeText(evaluated))
	}
	return got
}

func fileOf(t *testing.T, chunk impl.Chunk) []byte {
	t.Helper()
	file, code := impl.WriteChunk(chunk)
	if code != 0 {
		t.Fatalf("code %d", code)
	}
	return file
}

func outcomesText(all []impl.Outcome) string {
	var rows []string
	for i, o := range all {
		rows = append(rows, fmt.Sprintf("%d: %s", i, outcomeText(o)))
	}
	return strings.Join(rows, "\n")
}

func sameOutcomes(a, b []impl.Outcome) bool { return slices.EqualFunc(a, b, sameOutcome) }

// textsText has texts as they are, each behind its number.
func textsText(inputs []string) string {
	text := ""
	for i, source := range inputs {
		text += fmt.Sprintf("%d: %.2000s\n", i, source)
	}
	return text
}

// checkSession holds Session and EvaluateAll against their models, a second call, each other (promise 28), and what is told
// of the first texts alone.
func checkSession(t *testing.T, inputs []string, limits impl.Limits) []impl.Outcome {
	t.Helper()
	ran, evaluated := impl.Session(inputs, limits), impl.EvaluateAll(inputs, limits)
	for _, c := range []struct {
		what      string
		got, want []impl.Outcome
	}{
		{"the model of Session", ran, modelSession(inputs, limits, true)}, {"Session again", ran, impl.Session(inputs, limits)},
		{"the model of EvaluateAll", evaluated, modelSession(inputs, limits, false)}, {"EvaluateAll again", evaluated, impl.EvaluateAll(inputs, limits)},
	} {
		if !sameOutcomes(c.got, c.want) {
			t.Errorf("with %+v\n%s\n%s\n%s:\n%s", limits, textsText(inputs), outcomesText(c.got), c.what, outcomesText(c.want))
		}
	}
	if limits.Memory == 0 && !slices.ContainsFunc(inputs, hangsOnCollector) && !slices.EqualFunc(ran, evaluated, sameBut) {
		t.Errorf("with %+v\n%s\n%s\nevaluated:\n%s", limits, textsText(inputs), outcomesText(ran), outcomesText(evaluated))
	}
	for _, count := range someCounts(len(inputs)) {
		if first := impl.Session(inputs[:count], limits); !sameOutcomes(first, ran[:count]) {
			t.Errorf("with %+v\n%s\n%s\nthe first %d alone:\n%s", limits, textsText(inputs), outcomesText(ran), count, outcomesText(first))
		}
		if first := impl.EvaluateAll(inputs[:count], limits); !sameOutcomes(first, evaluated[:count]) {
			t.Errorf("with %+v\n%s\n%s\nthe first %d alone, evaluated:\n%s", limits, textsText(inputs), outcomesText(evaluated), count, outcomesText(first))
		}
	}
	return ran
}

// someCounts are numbers of texts that are less than all.
func someCounts(all int) []int {
	var counts []int
	for count := range all {
		if all <= 6 || count == 1 || count == all/2 || count == all-1 {
			counts = append(counts, count)
		}
	}
	return counts
}
