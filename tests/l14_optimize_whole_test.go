package tests

import (
	"fmt"
	"slices"
	"sync"
	"testing"

	"loop.example/g00002/impl"
)

// checkNotShort looks that a chunk gives just its verdict.
func checkNotShort(t *testing.T, what string, chunk impl.Chunk) {
	t.Helper()
	want := impl.Verify(chunk)
	got, verdict := impl.Optimize(chunk)
	if want.Code == 0 || verdict != want || len(got.Protos) != 0 {
		t.Errorf("%s: Optimize tells %+v with %d functions, Verify %+v", what, verdict, len(got.Protos), want)
	}
}

func TestOptimizeUnsafe(t *testing.T) {
	t.Parallel()
	chunks := unsafeChunks(t)
	for code, chunk := range chunks {
		got, verdict := impl.Optimize(chunk)
		if verdict != (impl.Verdict{Code: code, At: verdict.At}) || len(got.Protos) != 0 {
			t.Errorf("%+v, want the code %d; %d functions", verdict, code, len(got.Protos))
		}
		checkNotShort(t, fmt.Sprint(code), chunk)
		// In a function that no closure is made of, and of which nothing is come to.
		p := chunk.Protos[0]
		p.Code, p.Lines = append([]impl.Instr{end}, p.Code...), append([]int{1}, p.Lines...)
		for at := range p.Code {
			if i := &p.Code[at]; modelJumps(i.Op) || i.Op == impl.InsClosure {
				i.B++
			}
		}
		inside := impl.Chunk{Protos: []impl.Proto{plainProto(), p, plainProto()}}
		want := impl.Verdict{Code: code, Proto: 1, At: impl.Verify(inside).At}
		if _, verdict := impl.Optimize(inside); verdict != want {
			t.Errorf("%+v, want %+v", verdict, want)
		}
		checkNotShort(t, fmt.Sprint(code), inside)
	}
	if len(chunks) != 11 {
		t.Errorf("%d chunks", len(chunks))
	}
	checkNotShort(t, "no function", impl.Chunk{})
	checkNotShort(t, "an empty list", impl.Chunk{Protos: []impl.Proto{}})
	checkNotShort(t, "nothing in a function", impl.Chunk{Protos: make([]impl.Proto, 1)})
	checkNotShort(t, "too many functions", impl.Chunk{Protos: many(plainProto(), impl.MaxProtos+1)})
	checkNotShort(t, "very many functions", impl.Chunk{Protos: many(plainProto(), 70000)})
	long := plainProto()
	long.Code, long.Lines = many(end, impl.MaxCode+1), many(1, impl.MaxCode+1)
	checkNotShort(t, "too many instructions", impl.Chunk{Protos: []impl.Proto{long}})
	inner := plainProto()
	inner.Dots = false
	checkNotShort(t, "no text", impl.Chunk{Protos: []impl.Proto{inner}})
}

// Chunks of all sorts have the verdict of Verify, or are made shorter.
func TestOptimizeOfRandomChunks(t *testing.T) {
	t.Parallel()
	for i, chunk := range anyChunks(2000) {
		if impl.Verify(chunk).Code == 0 {
			checkShorter(t, "any", chunk)
			continue
		}
		checkNotShort(t, fmt.Sprint(i), chunk)
	}
}

// Chapter 1: the chunk that is handed in stays as it was, what lies behind the ends of its lists too.
func TestOptimizeWritesIntoNoArgument(t *testing.T) {
	t.Parallel()
	var chunks []impl.Chunk
	for _, source := range slices.Concat(modestTexts(40), heapTexts(20), alone) {
		if chunk, fault := impl.Compile(source); fault.Code == 0 {
			chunks = append(chunks, chunk)
		}
	}
	for _, chunk := range unsafeChunks(t) {
		chunks = append(chunks, chunk)
	}
	chunks = append(chunks, jumpyChunks(t, 200)...)
	for _, chunk := range chunks {
		roomy, told := spacious(chunk)
		before := told()
		first, verdict := impl.Optimize(roomy)
		second, again := impl.Optimize(roomy)
		if !slices.EqualFunc(told(), before, sameProto) {
			t.Errorf("%.3000s", codeText(chunk))
		}
		if !sameChunk(first, second) || verdict != again {
			t.Errorf("%+v and then %+v; of\n%.3000s comes\n%.3000s and then\n%.3000s", verdict, again, codeText(chunk), codeText(first), codeText(second))
		}
	}
}

// spoil writes over all of a chunk that can be written over.
func spoil(c impl.Chunk) {
	for n := range c.Protos[:cap(c.Protos)] {
		p := &c.Protos[:cap(c.Protos)][n]
		for i := range p.Ups[:cap(p.Ups)] {
			p.Ups[:cap(p.Ups)][i] = impl.Up{Index: 66}
		}
		for i := range p.Consts[:cap(p.Consts)] {
			p.Consts[:cap(p.Consts)][i] = impl.Const{Kind: 66}
		}
		for i := range p.Code[:cap(p.Code)] {
			p.Code[:cap(p.Code)][i] = impl.Instr{Op: 66}
		}
		for i := range p.Lines[:cap(p.Lines)] {
			p.Lines[:cap(p.Lines)][i] = 66
		}
	}
}

// Chapter 1: an answer shares no memory with the argument, nor with another answer, nor do two of its lists.
func TestOptimizeAnswersOwnTheirMemory(t *testing.T) {
	t.Parallel()
	chunks := jumpyChunks(t, 100)
	for _, source := range slices.Concat(modestTexts(40), heapTexts(20), []string{"", "local a = 1 return function() return a end", "return 'a', 'a', {a = 'a'}"}) {
		if chunk, fault := impl.Compile(source); fault.Code == 0 {
			chunks = append(chunks, chunk)
		}
	}
	for _, chunk := range chunks {
		argument := copyChunk(chunk)
		first, _ := impl.Optimize(argument)
		want := codeText(first)
		second, _ := impl.Optimize(argument)
		for n, p := range first.Protos {
			for i, k := range p.Consts {
				for _, q := range argument.Protos {
					for _, other := range q.Consts {
						apart(t, "a constant", k.Text, other.Text)
					}
				}
				for _, other := range slices.Concat(second.Protos[n].Consts, p.Consts[:i]) {
					apart(t, "a constant", k.Text, other.Text)
				}
			}
		}
		spoil(second)
		if codeText(first) != want || !sameChunk(argument, chunk) {
			t.Errorf("%.3000s", codeText(chunk))
		}
		spoil(argument)
		if codeText(first) != want {
			t.Errorf("%.3000s", codeText(chunk))
		}
		// A list that is written over, and added to, leaves all others as they are.
		for n := range first.Protos {
			p := &first.Protos[n]
			kept := *p
			p.Code, p.Lines = append(p.Code, impl.Instr{}), append(p.Lines, 0)
			p.Ups, p.Consts = append(p.Ups, impl.Up{}), append(p.Consts, impl.Const{})
			*p = kept
			if codeText(first) != want {
				t.Errorf("%.3000s", codeText(chunk))
			}
		}
	}
}

// Calls at the same time, also of one chunk, don't touch each other.
func TestOptimizeAtTheSameTime(t *testing.T) {
	t.Parallel()
	chunks := jumpyChunks(t, 60)
	for _, source := range slices.Concat(modestTexts(20), heapTexts(20)) {
		if chunk, fault := impl.Compile(source); fault.Code == 0 {
			chunks = append(chunks, chunk)
		}
	}
	var want []impl.Chunk
	for _, chunk := range chunks {
		made, _ := impl.Optimize(chunk)
		want = append(want, made)
	}
	var group sync.WaitGroup
	for w := range 8 {
		group.Add(1)
		go func() {
			defer group.Done()
			for i := range chunks {
				i = (i + w*7) % len(chunks)
				if got, _ := impl.Optimize(chunks[i]); !sameChunk(got, want[i]) {
					t.Errorf("%.3000s", codeText(got))
				}
			}
		}()
	}
	group.Wait()
}

// longest is a text's function with as many instructions as there may be, the last of which returns.
func longest(instr func(at int) impl.Instr) impl.Chunk {
	p := impl.Proto{Regs: impl.MaxRegs, Line: 1, Dots: true}
	for at := range impl.MaxCode - 1 {
		p.Code, p.Lines = append(p.Code, instr(at)), append(p.Lines, at)
	}
	p.Code, p.Lines = append(p.Code, end), append(p.Lines, impl.MaxCode)
	return impl.Chunk{Protos: []impl.Proto{p}}
}

// An answer comes at the greatest functions, in few rounds and in as many as there are instructions.
func TestOptimizeLongestCode(t *testing.T) {
	t.Parallel()
	const last = impl.MaxCode - 1
	jump := func(op, a, b int) impl.Instr { return impl.Instr{Op: op, A: a, B: b} }
	check := func(name string, chunk impl.Chunk, left func(at int) bool) {
		t.Helper()
		got, verdict := impl.Optimize(chunk)
		if verdict.Code != 0 {
			t.Fatalf("%s: %+v", name, verdict)
		}
		checkMadeShort(t, name, chunk, got)
		var lines []int
		for at, line := range chunk.Protos[0].Lines {
			if left(at) {
				lines = append(lines, line)
			}
		}
		if !slices.Equal(got.Protos[0].Lines, lines) {
			t.Errorf("%s: %d instructions are left, want %d", name, len(got.Protos[0].Lines), len(lines))
		}
		limits := paced(1)
		limits.Steps = 300
		checkSameRuns(t, name, chunk, got, limits)
	}
	end := func(at int) bool { return at == last }
	half := last / 2
	check("steps", longest(func(int) impl.Instr { return tick }), func(int) bool { return true })
	check("tables", longest(func(at int) impl.Instr { return impl.Instr{Op: impl.InsTable, A: at % 250} }), func(int) bool { return true })
	check("moves", longest(func(at int) impl.Instr { return impl.Instr{Op: impl.InsMove, A: at % 250, B: at % 250} }), end)
	check("moves and steps", longest(func(at int) impl.Instr {
		if at%2 == 0 {
			return tick
		}
		return impl.Instr{Op: impl.InsMove}
	}), func(at int) bool { return at%2 == 0 || at == last })
	check("jumps to the next", longest(func(at int) impl.Instr { return jump(impl.InsJump, 0, at+1) }), end)
	check("jumps to the end", longest(func(int) impl.Instr { return jump(impl.InsJump, 0, last) }), end)
	check("choices to the next", longest(func(at int) impl.Instr { return jump(impl.InsJumpIf, 0, at+1) }), end)
	check("choices to the end", longest(func(at int) impl.Instr { return jump(impl.InsJumpIf+at%2, at%250, last) }), end)
	check("returns", longest(func(int) impl.Instr { return impl.Instr{Op: impl.InsReturn, B: 1} }), func(at int) bool { return at == 0 })
	check("choices between", longest(func(at int) impl.Instr { return jump(impl.InsJumpIf, 1, min(at+2, last)) }), end)
	check("choices over a row of others", longest(func(at int) impl.Instr {
		if at < half {
			return jump(impl.InsJumpIf, 0, half)
		}
		return jump(impl.InsJumpNot, 0, last)
	}), end)
	check("loops", longest(func(at int) impl.Instr {
		if at%3 == 0 {
			return tick
		}
		return jump([]int{impl.InsForLoop, impl.InsEachLoop}[at%2], at%200, at/3*3)
	}), func(int) bool { return true })
	check("choices aimed anew one in a round", longest(func(at int) impl.Instr {
		switch {
		case at < 4000:
			return jump(impl.InsJumpIf, 0, 4000+at)
		case at < 8000:
			return jump(impl.InsJumpIf, 1+at%200, 8000)
		case at == 8000:
			return jump(impl.InsJumpNot, 0, last)
		}
		return tick
	}), func(at int) bool { return at < 4000 || at >= 8000 })
}

// As many constants and functions as there may be.
func TestOptimizeGreatestChunks(t *testing.T) {
	t.Parallel()
	wide := impl.Proto{Regs: 1, Line: 1, Dots: true}
	for n := range impl.MaxConsts {
		wide.Consts = append(wide.Consts, impl.Const{Kind: impl.NodeString, Text: times("x", n%50)})
		if n%3 > 0 {
			wide.Code, wide.Lines = append(wide.Code, impl.Instr{Op: impl.InsConst, B: n}), append(wide.Lines, n)
		}
	}
	wide.Consts[impl.MaxConsts-3].Text = times("y", impl.MaxString)
	wide.Code, wide.Lines = append(wide.Code, end), append(wide.Lines, 1)
	chunk := impl.Chunk{Protos: []impl.Proto{wide}}
	if got := checkShorter(t, "constants", chunk); len(got.Protos[0].Consts) != len(wide.Code)-1 {
		t.Errorf("%d constants", len(got.Protos[0].Consts))
	}
	// Each function makes a closure of one ahead, of which every third is left out.
	inner := codedProto(t, "regs 250 line 3 dots\n3: Tick; Return 0 1")
	outer := codedProto(t, "regs 250 line 4 dots\n4: Tick; Move 1 1; Closure 249 0; Tail 249 1; Closure 249 0; Return 0 1")
	chunk = impl.Chunk{Protos: many(inner, 3)}
	for n := 3; n < impl.MaxProtos; n++ {
		p := outer
		p.Code = slices.Clone(outer.Code)
		p.Code[2].B, p.Code[4].B, p.Line = n-3, n-1, n
		chunk.Protos = append(chunk.Protos, p)
	}
	got := checkShorter(t, "functions", chunk)
	if len(got.Protos) != (impl.MaxProtos+2)/3 {
		t.Errorf("%d functions", len(got.Protos))
	}
	for n, p := range got.Protos[1:] {
		if p.Line != 3*n+3 || p.Code[1] != (impl.Instr{Op: impl.InsClosure, A: 249, B: n}) || len(p.Code) != 3 {
			t.Errorf("function %d: %s", n, protoText(p))
		}
	}
	limits := paced(1)
	limits.Frames = 2
	checkSameRuns(t, "functions", chunk, got, limits)
	// All functions long, too.
	chunk = impl.Chunk{Protos: many(longest(func(at int) impl.Instr {
		return impl.Instr{Op: impl.InsJumpIf, A: at % 250, B: min(at/100*100+100, impl.MaxCode-1)}
	}).Protos[0], 40)}
	for n := range chunk.Protos[1:] {
		code := slices.Clone(chunk.Protos[n+1].Code)
		code[500] = impl.Instr{Op: impl.InsClosure, B: n}
		chunk.Protos[n+1].Code = code
	}
	if got, verdict := impl.Optimize(chunk); verdict.Code != 0 || len(got.Protos) != 40 || len(got.Protos[0].Code) != 1 || len(got.Protos[1].Code) != 2 {
		t.Errorf("%+v, %d functions", verdict, len(got.Protos))
	}
}
