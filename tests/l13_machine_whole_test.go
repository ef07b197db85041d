package tests

import (
	"runtime"
	"slices"
	"strings"
	"sync"
	"testing"

	"loop.example/g00002/impl"
)

// The machine has no goroutines, whatever waits. (This test isn't parallel to others, whose goroutines would count.)
func TestExecLeavesNoGoroutine(t *testing.T) {
	before := runtime.NumGoroutine()
	for _, source := range []string{
		"for i = 1, 300 do coroutine.resume(coroutine.create(coroutine.yield)) end", "while true do coroutine.resume(coroutine.create(coroutine.yield)) end",
		"local function f() coroutine.resume(coroutine.create(coroutine.yield)) coroutine.wrap(f)() end f()", "coroutine.wrap(function() error('e') end)()",
		"coroutine.wrap(function() write(('x'):rep(60000)) end)()", "setmetatable({}, {__gc = function() while true do end end}) local x collectgarbage() x = 1",
	} {
		limits := paced(1)
		limits.Steps, limits.Output = 20000, 50000
		impl.Exec(compiled(t, source), limits)
		impl.Trace(compiled(t, source), limits)
		if now := runtime.NumGoroutine(); now > before {
			t.Errorf("%s: %d goroutines, %d before", source, now, before)
		}
	}
}

// Calls at the same time don't touch each other, nor do those of one chunk.
func TestExecAtTheSameTime(t *testing.T) {
	t.Parallel()
	var chunks []impl.Chunk
	var want []impl.Outcome
	limits := paced(10)
	limits.Steps = 2000
	for _, source := range slices.Concat(modestTexts(40), heapTexts(40), alone) {
		if chunk, fault := impl.Compile(source); fault.Code == 0 {
			chunks = append(chunks, chunk)
			want = append(want, impl.Exec(chunk, limits))
		}
	}
	var group sync.WaitGroup
	for w := range 8 {
		group.Add(1)
		go func() {
			defer group.Done()
			for i := range chunks {
				i = (i + w*11) % len(chunks)
				if got := impl.Exec(chunks[i], limits); !sameOutcome(got, want[i]) {
					t.Errorf("%s, alone %s", outcomeText(got), outcomeText(want[i]))
				}
			}
		}()
	}
	group.Wait()
}

// Chapter 1: answers own their memory.
func TestExecAnswersOwnTheirMemory(t *testing.T) {
	t.Parallel()
	for _, source := range []string{
		"write('a long enough text') return 'a long enough text', 'a long enough text', ('a long enough text'):sub(1)",
		"write('a long enough text') error('a long enough text', 0)", "local s = 'a long enough text' write(s) return s, s, {}, print, write",
		"write([[a long enough text]]) return [[a long enough text]], next({a_long_enough_name = 1})", "error((next({a_long_enough_name = 1})), 0)",
	} {
		chunk := reread(t, compiled(t, source))
		first, second := impl.Exec(chunk, plenty()), impl.Exec(chunk, plenty())
		var consts []string
		for _, c := range chunk.Protos[0].Consts {
			consts = append(consts, c.Text)
		}
		all := append([]string{first.Output, first.Error}, first.Results...)
		for i, text := range all {
			for _, other := range slices.Concat(consts, []string{second.Output, second.Error}, second.Results, all[:i]) {
				apart(t, source, text, other)
			}
		}
		want := outcomeText(second)
		room := first.Results[:cap(first.Results)]
		for i := range room {
			room[i] = "changed"
		}
		if got := outcomeText(impl.Exec(chunk, plenty())); got != want || outcomeText(second) != want {
			t.Errorf("%s: %s, then %s", source, want, got)
		}
	}
	chunk := compiled(t, "local function f() end f() f()")
	first, _ := impl.Trace(chunk, plenty())
	want := eventsText(first)
	second, _ := impl.Trace(chunk, plenty())
	room := first[:cap(first)]
	for i := range room {
		room[i] = impl.Event{}
	}
	third, _ := impl.Trace(chunk, plenty())
	if eventsText(second) != want || eventsText(third) != want {
		t.Errorf("%s", eventsText(third))
	}
}

// spacious gives all lists of a chunk room behind their ends, and tells what stands there.
func spacious(c impl.Chunk) (roomy impl.Chunk, told func() []impl.Proto) {
	for _, p := range c.Protos {
		p.Code = append(slices.Clone(p.Code), slices.Repeat([]impl.Instr{{Op: 77}}, 9)...)[:len(p.Code)]
		p.Lines = append(slices.Clone(p.Lines), slices.Repeat([]int{77}, 9)...)[:len(p.Lines)]
		p.Consts = append(slices.Clone(p.Consts), slices.Repeat([]impl.Const{{Kind: 77}}, 9)...)[:len(p.Consts)]
		p.Ups = append(slices.Clone(p.Ups), slices.Repeat([]impl.Up{{Index: 77}}, 9)...)[:len(p.Ups)]
		roomy.Protos = append(roomy.Protos, p)
	}
	return roomy, func() []impl.Proto {
		var all []impl.Proto
		for _, p := range roomy.Protos {
			p.Code, p.Lines = slices.Clone(p.Code[:len(p.Code)+9]), slices.Clone(p.Lines[:len(p.Lines)+9])
			p.Consts, p.Ups = slices.Clone(p.Consts[:len(p.Consts)+9]), slices.Clone(p.Ups[:len(p.Ups)+9])
			all = append(all, p)
		}
		return all
	}
}

func TestExecWritesIntoNoArgument(t *testing.T) {
	t.Parallel()
	for _, source := range slices.Concat(modestTexts(40), heapTexts(40), alone) {
		chunk, fault := impl.Compile(source)
		if fault.Code != 0 {
			continue
		}
		roomy, told := spacious(chunk)
		before := told()
		limits := paced(10)
		limits.Steps = 3000
		impl.Exec(roomy, limits)
		impl.Trace(roomy, limits)
		if !slices.EqualFunc(told(), before, sameProto) {
			t.Errorf("%s", source)
		}
	}
	for _, chunk := range unsafeChunks(t) {
		roomy, told := spacious(chunk)
		before := told()
		impl.Exec(roomy, plenty())
		if !slices.EqualFunc(told(), before, sameProto) {
			t.Errorf("%s", codeText(chunk))
		}
	}
}

// An answer comes at the greatest chunks.
func TestExecGreatestChunks(t *testing.T) {
	t.Parallel()
	long := impl.Proto{Regs: impl.MaxRegs, Line: 1, Dots: true}
	long.Code = append(slices.Repeat([]impl.Instr{{Op: impl.InsTable, A: 249}}, impl.MaxCode-1), impl.Instr{Op: impl.InsReturn, B: 2})
	long.Lines = make([]int, impl.MaxCode)
	limits := paced(1)
	checkOutcome(t, "tables", impl.Exec(impl.Chunk{Protos: []impl.Proto{long}}, limits),
		impl.Outcome{Ticks: 1, Results: []string{"nil"}, Live: firstLive + impl.MaxCode - 1, Bytes: firstBytes + 40*(impl.MaxCode-1)})
	// Jumps from each to the next, and back to a Tick at last.
	for i := range long.Code {
		long.Code[i] = impl.Instr{Op: impl.InsJump, B: i + 1}
	}
	long.Code[0], long.Code[impl.MaxCode-1] = impl.Instr{Op: impl.InsTick}, impl.Instr{Op: impl.InsJump}
	limits.Steps = 500
	checkOutcome(t, "jumps", impl.Exec(impl.Chunk{Protos: []impl.Proto{long}}, limits), impl.Outcome{Code: impl.OutBudget, Ticks: 500, Live: firstLive, Bytes: firstBytes})
	// As many functions as there may be, each calling a closure of the one ahead of it.
	inner := codedProto(t, "regs 250 line 3\n3: Tick; Return 0 1")
	outer := codedProto(t, "regs 250 line 4\n4: Tick; Closure 249 0; Tail 249 1")
	chunk := impl.Chunk{Protos: []impl.Proto{inner}}
	for i := 1; i < impl.MaxProtos; i++ {
		p := outer
		p.Code = slices.Clone(outer.Code)
		p.Code[1].B = i - 1
		p.Dots = i == impl.MaxProtos-1
		chunk.Protos = append(chunk.Protos, p)
	}
	limits = paced(0)
	checkOutcome(t, "functions", impl.Exec(chunk, limits), impl.Outcome{Ticks: 2 * impl.MaxProtos, Live: firstLive + impl.MaxProtos - 1, Bytes: firstBytes + 40*(impl.MaxProtos-1)})
	// The deepest calls with the most registers, looked at by the collector.
	source := "local function f(n) local " + strings.Join(shortNames(170), ", ") + " if n > 0 then f(n - 1) else for i = 1, 50 do collectgarbage() end end return n end return (f(190))"
	if got := impl.Exec(compiled(t, source), paced(100)); got.Code != 0 || got.Results[0] != "190" {
		t.Errorf("%s", outcomeText(got))
	}
	// As many constants, of the greatest size together with others.
	wide := impl.Proto{Regs: 1, Line: 1, Dots: true}
	for i := range impl.MaxConsts {
		wide.Consts = append(wide.Consts, impl.Const{Kind: impl.NodeString, Text: times("x", i%20)})
		wide.Code, wide.Lines = append(wide.Code, impl.Instr{Op: impl.InsConst, B: i}), append(wide.Lines, 1)
	}
	wide.Consts[impl.MaxConsts-1].Text = times("y", impl.MaxString)
	wide.Code, wide.Lines = append(wide.Code, impl.Instr{Op: impl.InsReturn, B: 2}), append(wide.Lines, 1)
	checkOutcome(t, "constants", impl.Exec(impl.Chunk{Protos: []impl.Proto{wide}}, paced(1)), impl.Outcome{Ticks: 1, Results: []string{times("y", impl.MaxString)}, Live: firstLive, Bytes: firstBytes})
}

// Promise 19 for texts that are long and deep.
func TestExecLongAndDeepTexts(t *testing.T) {
	t.Parallel()
	texts := append(deepTexts(), "return "+times("1, ", 200)+"1", "x = {"+times("{},", 4000)+"}", "write("+times("'x', ", 240)+"'x')", times("x=x or{}x.y=x ", 1000)+"return x.y.y.y == x")
	for _, source := range texts {
		chunk, fault := impl.Compile(source)
		if fault.Code != 0 {
			continue
		}
		want := impl.Evaluate(source, plenty())
		for _, pace := range paces() {
			if got := impl.Exec(chunk, paced(pace)); !sameBut(got, want) {
				t.Errorf("%s: %s, not %s", short(source), outcomeText(got), outcomeText(want))
			}
		}
	}
}

// Many results, and values beyond what can be told.
func TestExecResults(t *testing.T) {
	t.Parallel()
	for _, n := range []int{0, 1, 99, 100, 101, 1000} {
		source := "local t = {} for i = 1, " + intLitText(n) + " do t[i] = i end return table.unpack(t)"
		got := checkMachine(t, source, compiled(t, source), paced(1))
		if len(got.Results) != min(n, impl.MaxResults) || len(got.Results) > 0 && got.Results[len(got.Results)-1] != intLitText(len(got.Results)) {
			t.Errorf("%d: %s", n, outcomeText(got))
		}
	}
	comesOut(t, "local function f(n) if n == 0 then return end return n, f(n - 1) end return select('#', f(90)), (f(90))", "= 90 90")
}
