package tests

import (
	"slices"
	"testing"

	"loop.example/g00002/impl"
)

func checkOutcome(t *testing.T, name string, got, want impl.Outcome) {
	t.Helper()
	if !sameOutcome(got, want) {
		t.Errorf("%s: %s, not %s", name, outcomeText(got), outcomeText(want))
	}
}

// The library's own objects, and the closure of the text: 5 tables with 68 entries, the main thread, 14 cells, the closure of
// the prelude's text and 19 of its functions with 35 upvalues, and one more closure.
const (
	firstLive  = 5 + 1 + 14 + 20 + 1
	firstBytes = 5*40 + 68*40 + 400 + 14*40 + 20*40 + 35*8 + 40
)

// unsafeChunks has a chunk for each verdict of chapter 9.
func unsafeChunks(t *testing.T) map[int]impl.Chunk {
	t.Helper()
	chunks := map[int]impl.Chunk{}
	for code, text := range map[int]string{
		impl.ChunkShape: "regs 0 line 1 dots\n1: Return 0 1", impl.ChunkReg: "regs 1 line 1 dots\n1: Move 0 1; Return 0 1",
		impl.ChunkConst: "regs 1 line 1 dots\n1: Const 0 0; Return 0 1", impl.ChunkUp: "regs 1 line 1 dots\n1: GetUp 0 0; Return 0 1",
		impl.ChunkProto: "regs 1 line 1 dots\n1: Closure 0 0; Return 0 1", impl.ChunkJump: "regs 1 line 1 dots\n1: a: Nil 0 1; Jump a",
		impl.ChunkOpen: "regs 2 line 1 dots\n1: Dots 0 0; Return 0 1", impl.ChunkEnd: "regs 1 line 1 dots\n1: Tick",
		impl.ChunkDots: "regs 1 line 1\n1: Dots 0 1; Return 0 1\nregs 1 line 1 dots\n1: Return 0 1", impl.ChunkCount: "regs 1 line 1 dots\n1: Nil 0 2; Return 0 1",
	} {
		chunks[code] = coded(t, text)
	}
	wrong := coded(t, "regs 1 line 1 dots\n1: Tick; Return 0 1")
	wrong.Protos[0].Code[0].Op = 39
	chunks[impl.ChunkOp] = wrong
	return chunks
}

func TestExecUnsafe(t *testing.T) {
	t.Parallel()
	chunks := unsafeChunks(t)
	chunks[0] = compiled(t, "write('x')")
	chunks[-1], chunks[-2] = impl.Chunk{}, impl.Chunk{Protos: make([]impl.Proto, 1)}
	long := compiled(t, "write('x')")
	long.Protos = slices.Concat(slices.Repeat(long.Protos, impl.MaxProtos), long.Protos)
	chunks[-3] = long
	for code, chunk := range chunks {
		if verdict := impl.Verify(chunk); code >= 0 && verdict.Code != code {
			t.Errorf("%d: %+v", code, verdict)
		}
		if code != 0 {
			checkOutcome(t, "unsafe", impl.Exec(chunk, plenty()), impl.Outcome{Code: impl.OutChunk})
		}
		for _, c := range limitCases() {
			for _, n := range c.wrong {
				limits := plenty()
				c.set(&limits, n)
				checkOutcome(t, "wrong limits", impl.Exec(chunk, limits), impl.Outcome{Code: impl.OutLimits})
				events, o := impl.Trace(chunk, limits)
				checkOutcome(t, "wrong limits", o, impl.Outcome{Code: impl.OutLimits})
				if len(events) != 0 {
					t.Errorf("%d events", len(events))
				}
			}
		}
	}
	if len(chunks) != 15 {
		t.Errorf("%d chunks", len(chunks))
	}
	// What is safe but for one function that isn't come to isn't run either.
	chunk := compiled(t, "write('x') local function f() return 1 end")
	chunk.Protos[0].Code[1].A = 99
	checkOutcome(t, "inside", impl.Exec(chunk, plenty()), impl.Outcome{Code: impl.OutChunk})
}

func TestExecLimits(t *testing.T) {
	t.Parallel()
	chunk := compiled(t, "")
	for _, c := range limitCases() {
		for _, n := range c.right {
			limits := plenty()
			c.set(&limits, n)
			checkOutcome(t, "empty", checkMachine(t, "empty", chunk, limits), impl.Outcome{Ticks: 1, Live: firstLive, Bytes: firstBytes})
		}
	}
	checkOutcome(t, "least", impl.Exec(chunk, impl.Limits{Steps: 1, Frames: 1}), impl.Outcome{Ticks: 1, Live: firstLive, Bytes: firstBytes})
	// The least memory isn't enough for the library, which is told at the first Tick.
	limits := plenty()
	limits.Memory = impl.HeapStart
	want := impl.Outcome{Code: impl.OutError, Error: "2: not enough memory", Ticks: 2, Live: firstLive - 1, Bytes: firstBytes - 40}
	checkOutcome(t, "memory", checkMachine(t, "memory", compiled(t, "\nlocal x"), limits), want)
}

// What is told beside each code; Live and Bytes whatever the end.
func TestExecTellsBesideCodes(t *testing.T) {
	t.Parallel()
	const ahead = "write('ab') local s = 'x' .. 'y' local t = {{}, 1} "
	const live, bytes = firstLive + 2, firstBytes + 40 + 40 + 2*40
	limits := plenty()
	check := func(source string, want impl.Outcome) {
		t.Helper()
		want.Live, want.Bytes = want.Live+live, want.Bytes+bytes
		checkOutcome(t, source, checkMachine(t, source, compiled(t, source), limits), want)
	}
	check(ahead+"return 1, nil, s", impl.Outcome{Output: "ab", Results: []string{"1", "nil", "xy"}, Ticks: 5, Made: 2})
	check(ahead+"return t", impl.Outcome{Output: "ab", Results: []string{"table: 6"}, Ticks: 5, Made: 2})
	check(ahead, impl.Outcome{Output: "ab", Ticks: 4, Made: 2})
	check(ahead+"error('e')", impl.Outcome{Code: impl.OutError, Output: "ab", Error: "1: e", Ticks: 5, Made: 2})
	check(ahead+"error({})", impl.Outcome{Code: impl.OutError, Output: "ab", Error: "table: 8", Ticks: 5, Made: 2, Live: 1, Bytes: 40})
	check(ahead+"while true do end", impl.Outcome{Code: impl.OutBudget, Output: "ab", Ticks: 100000, Made: 2})
	check(ahead+"s = ('x'):rep(60000) while true do s = s .. '' end", impl.Outcome{Code: impl.OutMade, Output: "ab", Ticks: 71, Made: 2040002})
	// The function, the thread, a closure with an upvalue, cells for that and the thread, a closure with three upvalues.
	check(ahead+"coroutine.wrap(function() while true do end end)()", impl.Outcome{Code: impl.OutBudget, Output: "ab", Ticks: 100000, Made: 2,
		Live: 6, Bytes: 40 + 400 + 48 + 40 + 40 + 64})
	limits.Output = 3
	check(ahead+"write('cd')", impl.Outcome{Code: impl.OutOutput, Output: "ab", Ticks: 5, Made: 2})
	check(ahead+"local u = {} pcall(write, 'cd')", impl.Outcome{Code: impl.OutOutput, Output: "ab", Ticks: 6, Made: 2, Live: 1, Bytes: 40})
	limits.Steps = 4
	check(ahead+"local u = {}", impl.Outcome{Code: impl.OutBudget, Output: "ab", Ticks: 4, Made: 2})
	limits.Steps = 2
	checkOutcome(t, "few", impl.Exec(compiled(t, ahead), limits), impl.Outcome{Code: impl.OutBudget, Output: "ab", Ticks: 2, Live: firstLive, Bytes: firstBytes})
	limits.Steps = 1
	checkOutcome(t, "fewest", impl.Exec(compiled(t, ahead), limits), impl.Outcome{Code: impl.OutBudget, Ticks: 1, Live: firstLive, Bytes: firstBytes})
}
