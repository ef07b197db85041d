package tests

import (
	"slices"
	"testing"

	"loop.example/g00002/impl"
)

// The model says chapter 15 once more, word by word: whole rounds, with all places numbered anew whenever something goes.

// modelOptimize makes a chunk shorter.
func modelOptimize(c impl.Chunk) (impl.Chunk, impl.Verdict) {
	if verdict := modelVerify(c); verdict != (impl.Verdict{}) {
		return impl.Chunk{}, verdict
	}
	c = copyChunk(c)
	for n := range c.Protos {
		p := &c.Protos[n]
		for modelRound(p) {
		}
		modelConstants(p)
	}
	return modelFunctions(c), impl.Verdict{}
}

// modelRound tells whether it has turned anything.
func modelRound(p *impl.Proto) bool {
	was := slices.Clone(p.Code)
	for at := len(p.Code) - 1; at >= 0; at-- {
		for modelAim(p.Code, at) {
		}
	}
	modelKeep(p, modelReached(p.Code))
	stays := make([]bool, len(p.Code))
	for at, i := range p.Code {
		isMove := i.Op == impl.InsMove && i.A == i.B
		isJump := (i.Op == impl.InsJump || i.Op == impl.InsJumpIf || i.Op == impl.InsJumpNot) && i.B == at+1
		stays[at] = !isMove && !isJump
	}
	modelKeep(p, stays)
	return !slices.Equal(p.Code, was)
}

func modelJumps(op int) bool {
	return slices.Contains([]int{impl.InsJump, impl.InsJumpIf, impl.InsJumpNot, impl.InsForPrep, impl.InsForLoop, impl.InsEachLoop}, op)
}

// modelAim aims a jump anew once, if one of the three sentences holds.
func modelAim(code []impl.Instr, at int) bool {
	i := &code[at]
	if !modelJumps(i.Op) {
		return false
	}
	there := code[i.B]
	other := map[int]int{impl.InsJumpIf: impl.InsJumpNot, impl.InsJumpNot: impl.InsJumpIf}[i.Op]
	switch {
	case there.Op == impl.InsJump:
		i.B = there.B
	case other != 0 && there.Op == i.Op && there.A == i.A:
		i.B = there.B
	case other != 0 && there.Op == other && there.A == i.A:
		i.B++
	default:
		return false
	}
	return true
}

// modelReached goes over the code again and again, until it comes to nothing new.
func modelReached(code []impl.Instr) []bool {
	reached := make([]bool, len(code)+1)
	reached[0] = true
	for more := true; more; {
		more = false
		reach := func(at int) {
			more = more || !reached[at]
			reached[at] = true
		}
		for at, i := range code {
			if !reached[at] {
				continue
			}
			if modelJumps(i.Op) {
				reach(i.B)
			}
			if i.Op != impl.InsJump && i.Op != impl.InsReturn && i.Op != impl.InsTail {
				reach(at + 1)
			}
		}
	}
	return reached[:len(code)]
}

// modelKeep leaves instructions out. As many as stay ahead of a place is the number of now of the next one that stays.
func modelKeep(p *impl.Proto, stays []bool) {
	ahead := make([]int, len(p.Code)+1)
	for at, stay := range stays {
		ahead[at+1] = ahead[at]
		if stay {
			ahead[at+1]++
		}
	}
	var code []impl.Instr
	var lines []int
	for at, i := range p.Code {
		if !stays[at] {
			continue
		}
		if modelJumps(i.Op) {
			i.B = ahead[i.B]
		}
		code, lines = append(code, i), append(lines, p.Lines[at])
	}
	p.Code, p.Lines = code, lines
}

// modelConstant is the operand that names a constant, if there is one.
func modelConstant(i *impl.Instr) *int {
	switch i.Op {
	case impl.InsConst, impl.InsGetGlobal, impl.InsSetGlobal, impl.InsSetField:
		return &i.B
	case impl.InsGetField, impl.InsSelf:
		return &i.C
	}
	return nil
}

func modelConstants(p *impl.Proto) {
	for n := len(p.Consts) - 1; n >= 0; n-- {
		isNamed := false
		for at := range p.Code {
			operand := modelConstant(&p.Code[at])
			isNamed = isNamed || operand != nil && *operand == n
		}
		if isNamed {
			continue
		}
		p.Consts = slices.Delete(p.Consts, n, n+1)
		for at := range p.Code {
			if operand := modelConstant(&p.Code[at]); operand != nil && *operand > n {
				*operand--
			}
		}
	}
}

func modelFunctions(c impl.Chunk) impl.Chunk {
	for n := len(c.Protos) - 2; n >= 0; n-- {
		isNamed := false
		for _, p := range c.Protos {
			for _, i := range p.Code {
				isNamed = isNamed || i.Op == impl.InsClosure && i.B == n
			}
		}
		if isNamed {
			continue
		}
		// Those behind it have been looked at, so that what is left of them names it or never will.
		c.Protos = slices.Delete(c.Protos, n, n+1)
		for _, p := range c.Protos {
			for at := range p.Code {
				if i := &p.Code[at]; i.Op == impl.InsClosure && i.B > n {
					i.B--
				}
			}
		}
	}
	return c
}

// checkShorter holds what Optimize makes of a safe chunk against the model, a second call and, of P26, all but the runs.
func checkShorter(t *testing.T, name string, chunk impl.Chunk) impl.Chunk {
	t.Helper()
	got, verdict := impl.Optimize(chunk)
	if verdict != (impl.Verdict{}) {
		t.Fatalf("%s: %+v of\n%.3000s", short(name), verdict, codeText(chunk))
	}
	if want, _ := modelOptimize(chunk); !sameChunk(got, want) {
		t.Errorf("%s: of\n%.3000s\nOptimize makes\n%.3000s\nthe model\n%.3000s", short(name), codeText(chunk), codeText(got), codeText(want))
	}
	checkMadeShort(t, name, chunk, got)
	return got
}

// checkShorterText holds the chunk of a text, if there is one, against what Optimize makes of it.
func checkShorterText(t *testing.T, source string) {
	t.Helper()
	if chunk, fault := impl.Compile(source); fault.Code == 0 {
		checkShorter(t, source, chunk)
	}
}

// checkMadeShort asks of what Optimize has made of a chunk what P26 asks without a run.
func checkMadeShort(t *testing.T, name string, chunk, got impl.Chunk) {
	t.Helper()
	if again, verdict := impl.Optimize(chunk); verdict.Code != 0 || !sameChunk(again, got) {
		t.Errorf("%s: called again, Optimize makes\n%.3000s\nnot\n%.3000s", short(name), codeText(again), codeText(got))
	}
	if verdict := impl.Verify(got); verdict != (impl.Verdict{}) {
		t.Errorf("%s: %+v of\n%.3000s", short(name), verdict, codeText(got))
	}
	if twice, verdict := impl.Optimize(got); verdict.Code != 0 || !sameChunk(twice, got) {
		t.Errorf("%s: done twice it is\n%.3000s\nnot\n%.3000s", short(name), codeText(twice), codeText(got))
	}
	if back := reread(t, got); !sameChunk(back, got) {
		t.Errorf("%s: from its file comes\n%.3000s\nnot\n%.3000s", short(name), codeText(back), codeText(got))
	}
	checkNoLonger(t, name, chunk, got)
	for _, safe := range []impl.Chunk{chunk, got} {
		if code := checkListed(t, name, safe); code != 0 && code != impl.ListLarge {
			t.Errorf("%s: List tells %d of\n%.3000s", short(name), code, codeText(safe))
		}
	}
}

// checkNoLonger looks that each function of the shorter chunk is one of the longer in order, with no more of anything.
func checkNoLonger(t *testing.T, name string, chunk, got impl.Chunk) {
	t.Helper()
	rest := chunk.Protos
	for _, p := range got.Protos {
		isOf := func(q impl.Proto) bool {
			return p.Params == q.Params && p.Regs == q.Regs && p.Line == q.Line && p.Dots == q.Dots && slices.Equal(p.Ups, q.Ups) &&
				len(p.Code) <= len(q.Code) && len(p.Consts) <= len(q.Consts) && isWithin(p.Lines, q.Lines) && isWithin(p.Consts, q.Consts)
		}
		at := slices.IndexFunc(rest, isOf)
		if at < 0 {
			t.Errorf("%s: a function is none of the longer chunk:\n%.3000s\nof\n%.3000s", short(name), protoText(p), codeText(chunk))
			return
		}
		rest = rest[at+1:]
	}
}

// isWithin tells whether a list is another with some elements left out.
func isWithin[T comparable](list, whole []T) bool {
	for _, element := range list {
		at := slices.Index(whole, element)
		if at < 0 {
			return false
		}
		whole = whole[at+1:]
	}
	return true
}

// checkSameTrace traces what Optimize has made of a chunk: the outcome and all events are those of that chunk.
func checkSameTrace(t *testing.T, name string, got impl.Chunk, limits impl.Limits, events []impl.Event, out impl.Outcome) {
	t.Helper()
	shortEvents, shortOut := impl.Trace(got, limits)
	if !sameOutcome(out, shortOut) {
		t.Errorf("%s with %+v\n%s, made shorter:\n%s\n%.3000s", short(name), limits, outcomeText(out), outcomeText(shortOut), codeText(got))
	}
	if !slices.Equal(events, shortEvents) {
		t.Errorf("%s with %+v: %d events, made shorter %d\n%.3000s", short(name), limits, len(events), len(shortEvents), codeText(got))
	}
}

// checkSameRuns runs and traces a chunk and what Optimize makes of it.
func checkSameRuns(t *testing.T, name string, chunk, got impl.Chunk, limits impl.Limits) impl.Outcome {
	t.Helper()
	events, out := impl.Trace(chunk, limits)
	checkSameTrace(t, name, got, limits, events, out)
	if ran, shortRan := impl.Exec(chunk, limits), impl.Exec(got, limits); !sameOutcome(ran, shortRan) {
		t.Errorf("%s with %+v\n%s, made shorter:\n%s\n%.3000s", short(name), limits, outcomeText(ran), outcomeText(shortRan), codeText(got))
	}
	return out
}
