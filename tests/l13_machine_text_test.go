package tests

import (
	"regexp"
	"slices"
	"strconv"
	"strings"
	"testing"

	"loop.example/g00002/impl"
)

// hangsOnCollector tells whether a text may do something by which the collector is seen.
func hangsOnCollector(source string) bool {
	return strings.Contains(source, "collectgarbage") || strings.Contains(source, "__gc") || strings.Contains(source, "__mode")
}

// compiled is the chunk of a text without a fault.
func compiled(t *testing.T, source string) impl.Chunk {
	t.Helper()
	chunk, fault := impl.Compile(source)
	if fault.Code != 0 {
		t.Fatalf("%s\n%v", source, fault)
	}
	return chunk
}

// reread is a chunk as it comes back from its file.
func reread(t *testing.T, chunk impl.Chunk) impl.Chunk {
	t.Helper()
	file, code := impl.WriteChunk(chunk)
	if code != 0 {
		t.Fatalf("code %d", code)
	}
	again, code := impl.ReadChunk(file)
	if code != 0 {
		t.Fatalf("code %d", code)
	}
	return again
}

// paces are the paces of the collector at which runs are held against each other.
func paces() []int { return []int{0, 1, 10, 100} }

// paced are limits that a run meets only if it is made to, with a pace.
func paced(pace int) impl.Limits {
	limits := plenty()
	limits.Pace = pace
	return limits
}

// sameBut compares outcomes but for Live and Bytes.
func sameBut(a, b impl.Outcome) bool {
	a.Live, a.Bytes = b.Live, b.Bytes
	return sameOutcome(a, b)
}

// checkExec holds the machine against what Evaluate has told of a text (promise 19), at one pace or another, now and then
// from the chunk's file, and with just its steps and one fewer.
func checkExec(t *testing.T, source string, limits impl.Limits, want impl.Outcome) {
	t.Helper()
	if limits.Memory != 0 || hangsOnCollector(source) {
		return
	}
	chunk := compiled(t, source)
	if len(source)%3 == 0 {
		chunk = reread(t, chunk)
	}
	limits.Pace = paces()[len(source)%len(paces())]
	got := impl.Exec(chunk, limits)
	if !sameBut(got, want) {
		t.Errorf("%s\n%s, the machine:\n%s", short(source), outcomeText(want), outcomeText(got))
	}
	if run := impl.Run(source, limits); !sameOutcome(run, got) {
		t.Errorf("%s\n%s, from its source:\n%s", short(source), outcomeText(got), outcomeText(run))
	}
	if again := impl.Exec(checkShorter(t, source, chunk), limits); !sameOutcome(again, got) {
		t.Errorf("%s\n%s, made shorter:\n%s", short(source), outcomeText(got), outcomeText(again))
	}
	if want.Code == impl.OutBudget {
		return
	}
	limits.Steps = want.Ticks
	if just := impl.Exec(chunk, limits); !sameOutcome(just, got) {
		t.Errorf("%s\n%s, with just its steps\n%s", short(source), outcomeText(got), outcomeText(just))
	}
	if limits.Steps--; limits.Steps > 0 {
		fewer, want := impl.Exec(chunk, limits), impl.Evaluate(source, limits)
		if fewer.Code != impl.OutBudget || !sameBut(fewer, want) {
			t.Errorf("%s\n%s, the machine with one step fewer\n%s", short(source), outcomeText(want), outcomeText(fewer))
		}
	}
}

// checkMachine holds Exec, Trace and Debug of a safe chunk against the model, a second run, and promises 25 and 29.
func checkMachine(t *testing.T, name string, chunk impl.Chunk, limits impl.Limits) impl.Outcome {
	t.Helper()
	got := impl.Exec(chunk, limits)
	lines := someLines(chunk, len(name))
	want, wanted, looks := modelExec(chunk, limits, lines...)
	if !sameOutcome(got, want) {
		t.Errorf("%s with %+v\n%s, the model:\n%s", short(name), limits, outcomeText(got), outcomeText(want))
	}
	events, again := impl.Trace(chunk, limits)
	if !sameOutcome(got, again) {
		t.Errorf("%s with %+v\n%s, traced:\n%s", short(name), limits, outcomeText(got), outcomeText(again))
	}
	if !slices.Equal(events, wanted) {
		at := 0
		for at < min(len(events), len(wanted)) && events[at] == wanted[at] {
			at++
		}
		t.Errorf("%s with %+v: %d events, the model %d; the first %d are the same, then come\n%s\nin the model\n%s",
			short(name), limits, len(events), len(wanted), at, eventsText(events[at:min(at+5, len(events))]), eventsText(wanted[at:min(at+5, len(wanted))]))
	}
	checkEvents(t, name, events, got)
	checkLooks(t, name, chunk, limits, lines, looks, events, got)
	checkSameTrace(t, name, checkShorter(t, name, chunk), limits, events, got)
	return got
}

// execs holds a text against the model at each pace, and tells its outcome at pace 0.
func execs(t *testing.T, source string) impl.Outcome {
	t.Helper()
	chunk := compiled(t, source)
	for _, pace := range slices.Backward(paces()) {
		got := checkMachine(t, source, chunk, paced(pace))
		checkRun(t, source, paced(pace))
		if pace == 0 {
			return got
		}
	}
	return impl.Outcome{}
}

// toldShort is what a run puts out and comes to, as text.
func toldShort(o impl.Outcome) string {
	text := ""
	if o.Output != "" {
		text = o.Output + " "
	}
	switch o.Code {
	case 0:
		return strings.TrimSpace(text + "= " + strings.Join(o.Results, " "))
	case impl.OutError:
		return text + "! " + o.Error
	}
	return text + "code " + strconv.Itoa(o.Code)
}

// comesOut holds a text against what it puts out and comes to, at pace 0.
func comesOut(t *testing.T, source, want string) {
	t.Helper()
	if got := toldShort(execs(t, source)); got != want {
		t.Errorf("%s\n%s\nnot\n%s", source, got, want)
	}
}

var codeWord = regexp.MustCompile(`"(?:[^"\\]|\\.)*"|[^\s;]+|;`)

// coded reads a chunk as codeText tells it. A name with a colon behind it stands for the place of the instruction that it is
// ahead of, and may be an operand.
func coded(t *testing.T, text string) impl.Chunk {
	t.Helper()
	var chunk impl.Chunk
	var texts []string
	for _, row := range strings.Split(text, "\n") {
		row = strings.TrimSpace(row)
		if strings.HasPrefix(row, "regs ") {
			texts = append(texts, row)
		} else if row != "" {
			texts[len(texts)-1] += "\n" + row
		}
	}
	for _, text := range texts {
		chunk.Protos = append(chunk.Protos, codedProto(t, text))
	}
	return chunk
}

func codedProto(t *testing.T, text string) impl.Proto {
	t.Helper()
	head, body, _ := strings.Cut(text, "\n")
	p := codedHead(t, head)
	places := map[string]int{}
	var operands [][]string
	line := 0
	for _, row := range strings.Split(body, "\n") {
		for _, part := range strings.Split(row, ";") {
			words := codeWord.FindAllString(part, -1)
			for len(words) > 0 && strings.HasSuffix(words[0], ":") {
				name := strings.TrimSuffix(words[0], ":")
				if n, err := strconv.Atoi(name); err == nil {
					line = n
				} else {
					places[name] = len(operands)
				}
				words = words[1:]
			}
			if len(words) > 0 {
				operands = append(operands, words)
				p.Lines = append(p.Lines, line)
			}
		}
	}
	for _, words := range operands {
		p.Code = append(p.Code, codedInstr(t, words, places))
	}
	return p
}

func codedInstr(t *testing.T, words []string, places map[string]int) impl.Instr {
	t.Helper()
	var i impl.Instr
	for _, op := range knownOps() {
		if instructionOf(op).name == words[0] {
			i.Op = op
		}
	}
	operands := []*int{&i.A, &i.B, &i.C}
	if i.Op == impl.InsJump {
		operands = operands[1:]
	}
	for k, word := range words[1:] {
		place, isPlace := places[word]
		n, err := strconv.Atoi(word)
		if isPlace {
			n = place
		}
		if i.Op == 0 || !isPlace && err != nil {
			t.Fatalf("%v", words)
		}
		*operands[k] = n
	}
	return i
}

func codedHead(t *testing.T, head string) impl.Proto {
	t.Helper()
	var p impl.Proto
	kind := ""
	for _, word := range codeWord.FindAllString(head, -1) {
		n, err := strconv.Atoi(word)
		switch {
		case word == "dots":
			p.Dots = true
		case slices.Contains([]string{"regs", "line", "params", "ups", "consts"}, word):
			kind = word
		case kind == "regs" && err == nil:
			p.Regs = n
		case kind == "line" && err == nil:
			p.Line = n
		case kind == "params" && err == nil:
			p.Params = n
		case kind == "ups":
			index, _ := strconv.Atoi(word[1:])
			p.Ups = append(p.Ups, impl.Up{FromLocal: word[0] == 'R', Index: index})
		case kind == "consts":
			p.Consts = append(p.Consts, codedConst(t, word))
		default:
			t.Fatalf("%s", head)
		}
	}
	return p
}

func codedConst(t *testing.T, word string) impl.Const {
	t.Helper()
	if text, err := strconv.Unquote(word); err == nil {
		return impl.Const{Kind: impl.NodeString, Text: text}
	}
	if n, err := strconv.Atoi(word); err == nil {
		return impl.Const{Kind: impl.NodeInt, Int: n}
	}
	f, err := strconv.ParseFloat(word, 64)
	if err != nil {
		t.Fatalf("%s", word)
	}
	return impl.Const{Kind: impl.NodeFloat, Bits: floatNumber(f).Bits}
}

// spliced is the chunk of a text with its first functions in the place of which those told stand.
func spliced(t *testing.T, source, functions string) impl.Chunk {
	t.Helper()
	chunk := compiled(t, source)
	for i, p := range coded(t, functions).Protos {
		p.Ups = append(p.Ups, chunk.Protos[i].Ups[len(p.Ups):]...)
		chunk.Protos[i] = p
	}
	if verdict := impl.Verify(chunk); verdict.Code != 0 {
		t.Fatalf("%+v: %s", verdict, functions)
	}
	return chunk
}

// splicedTo holds such a chunk against what it puts out and comes to, at each pace.
func splicedTo(t *testing.T, source, functions, want string) {
	t.Helper()
	chunk := spliced(t, source, functions)
	for _, pace := range paces() {
		if got := toldShort(checkMachine(t, source+"\n"+functions, chunk, paced(pace))); got != want {
			t.Errorf("pace %d\n%s\n%s\n%s\nnot\n%s", pace, source, functions, got, want)
			return
		}
	}
}
