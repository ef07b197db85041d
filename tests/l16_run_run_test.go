package tests

import (
	"slices"
	"strings"
	"testing"

	"loop.example/g00002/impl"
)

// noFiles are bytes that are no chunk file.
func noFiles(t *testing.T) [][]byte {
	t.Helper()
	file := fileOf(t, compiled(t, "write('x')"))
	return [][]byte{
		nil, {}, {0}, []byte("chunk-01"), []byte("chunk-01\x00\x00"), []byte("chunk-01\x01\x00"), []byte("write('x')"), file[1:], file[:len(file)-1], file[:len(file)-4], append(slices.Clone(file), 0),
		append(slices.Clone(file), file...), withSum(file[:len(file)-5]), withSum([]byte("chunk-02")), withSum(nil), make([]byte, 100), []byte(times("x", 70000)),
	}
}

// Wrong limits are told ahead of anything else.
func TestRunLimits(t *testing.T) {
	t.Parallel()
	wrong := impl.Outcome{Code: impl.OutLimits}
	file := fileOf(t, compiled(t, "write('x') return 1"))
	files := append(noFiles(t), file)
	for _, chunk := range unsafeChunks(t) {
		if file, code := impl.WriteChunk(chunk); code == 0 {
			files = append(files, file)
		}
	}
	check := func(limits impl.Limits) {
		t.Helper()
		for _, source := range []string{"", "x =", "write('x') return 1", "@", "goto a", times(" ", impl.MaxSource+1)} {
			checkOutcome(t, short(source), impl.Run(source, limits), wrong)
		}
		for _, file := range files {
			checkOutcome(t, "a file", impl.RunFile(file, limits), wrong)
		}
	}
	for _, c := range limitCases() {
		for _, n := range c.wrong {
			limits := plenty()
			c.set(&limits, n)
			check(limits)
		}
		for _, n := range c.right {
			limits := plenty()
			c.set(&limits, n)
			checkOutcome(t, "empty", checkRun(t, "", limits), impl.Outcome{Ticks: 1, Live: firstLive, Bytes: firstBytes})
			checkOutcome(t, "a fault", checkRun(t, "x =", limits), impl.Outcome{Code: impl.OutFault, Fault: impl.Fault{Code: impl.FaultToken, Line: 1, At: 3}})
			checkOutcome(t, "no file", impl.RunFile(nil, limits), impl.Outcome{Code: impl.OutChunk})
		}
	}
	check(impl.Limits{})
	check(impl.Limits{Steps: 1})
	check(impl.Limits{Frames: 1})
	check(impl.Limits{Steps: -1, Frames: -1, Memory: -1, Output: -1, Pace: -1})
	checkOutcome(t, "the least", checkRun(t, "", impl.Limits{Steps: 1, Frames: 1}), impl.Outcome{Ticks: 1, Live: firstLive, Bytes: firstBytes})
}

// A fault of each of chapters 3 to 7, and nothing else, ahead of what the text would put out.
func TestRunFaults(t *testing.T) {
	t.Parallel()
	for _, r := range []struct {
		source string
		fault  impl.Fault
	}{
		// Chapter 3.
		{"write('x')\n@", impl.Fault{Code: impl.FaultByte, Line: 2, At: 11}}, {"x = '\\q'", impl.Fault{Code: impl.FaultEscape, Line: 1, At: 5}}, {"\n\nx = 'a\n'", impl.Fault{Code: impl.FaultString, Line: 3, At: 6}},
		{"x = 1x", impl.Fault{Code: impl.FaultNumber, Line: 1, At: 4}}, {"--[[", impl.Fault{Code: impl.FaultLong, Line: 1, At: 2}}, {times("\n", impl.MaxSource+1), impl.Fault{Code: impl.FaultLarge, Line: 1}},
		// Chapter 4.
		{"write('x') x =", impl.Fault{Code: impl.FaultToken, Line: 1, At: 14}}, {"local x <y>", impl.Fault{Code: impl.FaultAttrib, Line: 1, At: 9}}, {"end", impl.Fault{Code: impl.FaultToken, Line: 1}},
		{"x = 1\ny = " + times("(", 200) + "1" + times(")", 200), impl.Fault{Code: impl.FaultDepth, Line: 1}},
		// Chapter 5.
		{"write('x') break", impl.Fault{Code: impl.FaultBreak, Line: 1, At: 11}}, {"f()\ngoto a", impl.Fault{Code: impl.FaultGoto, Line: 2, At: 4}}, {"::a:: ::a::", impl.Fault{Code: impl.FaultLabel, Line: 1, At: 6}},
		{"local x <const> = 1\nx = 2", impl.Fault{Code: impl.FaultConst, Line: 2, At: 20}}, {"function f() return ... end", impl.Fault{Code: impl.FaultVararg, Line: 1, At: 20}},
		// Chapter 7.
		{"local x = function()\nend " + times("f()", 6667), impl.Fault{Code: impl.FaultCode, Line: 1}},
		{"x = {" + times("function()end,", 1000) + "}", impl.Fault{Code: impl.FaultProtos, Line: 1}},
	} {
		checkOutcome(t, short(r.source), checkRun(t, r.source, plenty()), impl.Outcome{Code: impl.OutFault, Fault: r.fault})
	}
	seen := 0
	for code, source := range faulty() {
		got := checkRun(t, source, plenty())
		_, fault := impl.Compile(source)
		if checkOutcome(t, short(source), got, impl.Outcome{Code: impl.OutFault, Fault: fault}); fault.Code != code {
			t.Errorf("%s: fault %d, not %d", short(source), fault.Code, code)
		}
		seen++
	}
	if seen != 20 {
		t.Errorf("%d kinds of faults", seen)
	}
	// A chapter's faults come ahead of the next one's, wherever they are.
	for _, r := range [][2]string{{"break x = @", "@"}, {"break x = = 1", "= 1"}, {"goto a " + times("f()", 6667), "goto"}, {"x = = 1 '", "'"}, {"local x <y> = " + times("(", 200) + "1" + times(")", 200), "y>"}} {
		if got := checkRun(t, r[0], plenty()); got.Code != impl.OutFault || got.Fault.At != strings.LastIndex(r[0], r[1]) {
			t.Errorf("%s: %s", short(r[0]), outcomeText(got))
		}
	}
}

// What ReadChunk refuses isn't run; neither is a file with a bit turned over, or cut anywhere.
func TestRunFileThatIsNone(t *testing.T) {
	t.Parallel()
	refused := impl.Outcome{Code: impl.OutChunk}
	for _, file := range noFiles(t) {
		checkOutcome(t, "no file", impl.RunFile(file, plenty()), refused)
	}
	whole := fileOf(t, compiled(t, "write('x') return {1, 2.5}, 'y', function() return 1 end"))
	for at := range whole {
		checkOutcome(t, "cut", impl.RunFile(whole[:at], plenty()), refused)
		for bit := range 8 {
			turned := slices.Clone(whole)
			turned[at] ^= 1 << bit
			checkOutcome(t, "a bit turned over", impl.RunFile(turned, plenty()), refused)
		}
	}
	got := impl.RunFile(whole, plenty())
	if got.Code != 0 || got.Output != "x" || strings.Join(got.Results, " ") != "table: 6 y function: 22" {
		t.Errorf("%s", outcomeText(got))
	}
}

// What ReadChunk reads and Verify doesn't like isn't run.
func TestRunFileUnsafe(t *testing.T) {
	t.Parallel()
	written := 0
	for code, chunk := range unsafeChunks(t) {
		file, refused := impl.WriteChunk(chunk)
		if refused != 0 {
			t.Errorf("%d: code %d", code, refused)
			continue
		}
		written++
		checkOutcome(t, "unsafe", impl.RunFile(file, plenty()), impl.Outcome{Code: impl.OutChunk})
	}
	if written != 11 {
		t.Errorf("%d files", written)
	}
	// A file without functions; one that would be safe but for a function that isn't come to.
	checkOutcome(t, "no function", impl.RunFile(withSum([]byte("chunk-01\x00\x00")), plenty()), impl.Outcome{Code: impl.OutChunk})
	chunk := compiled(t, "write('x') local function f() return 1 end")
	chunk.Protos[0].Code[1].A = 99
	checkOutcome(t, "inside", impl.RunFile(fileOf(t, chunk), plenty()), impl.Outcome{Code: impl.OutChunk})
	for i, chunk := range anyChunks(1500) {
		file, code := impl.WriteChunk(chunk)
		if code != 0 {
			continue
		}
		limits := heapLimits(i)
		checkOutcome(t, "any", impl.RunFile(file, limits), impl.Exec(chunk, limits))
	}
}

// Every field of the outcome, told by hand.
func TestRunTells(t *testing.T) {
	t.Parallel()
	const ahead = "write('ab') local s = 'x' .. 'y' local t = {{}, 1} "
	const live, bytes = firstLive + 2, firstBytes + 40 + 40 + 2*40
	limits := plenty()
	check := func(source string, want impl.Outcome) {
		t.Helper()
		checkOutcome(t, source, checkRun(t, source, limits), want)
	}
	check("", impl.Outcome{Ticks: 1, Live: firstLive, Bytes: firstBytes})
	check(" \n-- nothing\n", impl.Outcome{Ticks: 1, Live: firstLive, Bytes: firstBytes})
	check("return", impl.Outcome{Ticks: 2, Live: firstLive, Bytes: firstBytes})
	check("return nil", impl.Outcome{Results: []string{"nil"}, Ticks: 2, Live: firstLive, Bytes: firstBytes})
	check("return ''", impl.Outcome{Results: []string{""}, Ticks: 2, Live: firstLive, Bytes: firstBytes})
	check("return ...", impl.Outcome{Ticks: 2, Live: firstLive, Bytes: firstBytes})
	check("return 1, -2.5, 'x\\0y', true, nil, type, print, {}, coroutine.running()", impl.Outcome{Ticks: 2, Live: firstLive + 1, Bytes: firstBytes + 40,
		Results: []string{"1", "-2.5", "x\x00y", "true", "nil", "builtin: type", "function: 3", "table: 6", "thread: 1", "true"}})
	check(ahead+"return 1, nil, s", impl.Outcome{Output: "ab", Results: []string{"1", "nil", "xy"}, Ticks: 5, Made: 2, Live: live, Bytes: bytes})
	check(ahead, impl.Outcome{Output: "ab", Ticks: 4, Made: 2, Live: live, Bytes: bytes})
	check(ahead+"error('e')", impl.Outcome{Code: impl.OutError, Output: "ab", Error: "1: e", Ticks: 5, Made: 2, Live: live, Bytes: bytes})
	check(ahead+"error({})", impl.Outcome{Code: impl.OutError, Output: "ab", Error: "table: 8", Ticks: 5, Made: 2, Live: live + 1, Bytes: bytes + 40})
	check(ahead+"error()", impl.Outcome{Code: impl.OutError, Output: "ab", Error: "nil", Ticks: 5, Made: 2, Live: live, Bytes: bytes})
	check(ahead+"while true do end", impl.Outcome{Code: impl.OutBudget, Output: "ab", Ticks: 100000, Made: 2, Live: live, Bytes: bytes})
	check(ahead+"s = ('x'):rep(60000) while true do s = s .. '' end", impl.Outcome{Code: impl.OutMade, Output: "ab", Ticks: 71, Made: 2040002, Live: live, Bytes: bytes})
	limits.Output = 3
	check(ahead+"write('cd')", impl.Outcome{Code: impl.OutOutput, Output: "ab", Ticks: 5, Made: 2, Live: live, Bytes: bytes})
	check(ahead+"write('c') write('') write('d')", impl.Outcome{Code: impl.OutOutput, Output: "abc", Ticks: 7, Made: 2, Live: live, Bytes: bytes})
	limits.Steps = 2
	check(ahead, impl.Outcome{Code: impl.OutBudget, Output: "ab", Ticks: 2, Live: firstLive, Bytes: firstBytes})
	limits.Steps = 1
	check(ahead, impl.Outcome{Code: impl.OutBudget, Ticks: 1, Live: firstLive, Bytes: firstBytes})
	limits = paced(0)
	limits.Memory = impl.HeapStart
	check("\nlocal x", impl.Outcome{Code: impl.OutError, Error: "2: not enough memory", Ticks: 2, Live: firstLive - 1, Bytes: firstBytes - 40})
}

// sourcesOfAllKinds are texts of every kind that the tests of the earlier chapters make, with and without faults.
func sourcesOfAllKinds(count int) []string {
	parsed, _ := grown(count)
	return slices.Concat(grownRuns(count, true), heapTexts(count), codedTexts(count), parsed, randomTexts(count, 12), alone)
}

func TestRunOfEveryText(t *testing.T) {
	t.Parallel()
	texts := sourcesOfAllKinds(250)
	codes := make([]map[int]int, len(texts))
	inParallel(len(texts), func(i int) {
		codes[i] = map[int]int{}
		codes[i][checkRun(t, texts[i], heapLimits(i)).Code]++
		limits := someLimits(i)
		limits.Pace = paces()[i%4]
		codes[i][checkRun(t, texts[i], limits).Code]++
	})
	sum := map[int]int{}
	for _, each := range codes {
		for code, n := range each {
			sum[code] += n
		}
	}
	t.Log(sum)
	if sum[0] < 300 || sum[impl.OutFault] < 300 || sum[impl.OutError] < 300 || sum[impl.OutBudget] < 30 || sum[impl.OutOutput] < 10 {
		t.Errorf("codes %v", sum)
	}
}

func TestRunLongAndDeepTexts(t *testing.T) {
	t.Parallel()
	for i, source := range append(deepTexts(), "return "+times("1, ", 200)+"1", "x = {"+times("{},", 4000)+"}", times("x=x or{}x.y=x ", 1000)+"return x.y.y.y == x", times("x", impl.MaxSource), times("do end ", 4000)) {
		checkRun(t, source, paced(paces()[i%4]))
	}
}

// Promises 19 and 24: the pace changes nothing but Live and Bytes where nothing hangs on it, and the outcome is that of Evaluate.
func TestRunAtEachPace(t *testing.T) {
	t.Parallel()
	texts := append(modestTexts(120), sourcesOfAllKinds(60)...)
	freed := make([]int, len(texts))
	inParallel(len(texts), func(i int) {
		if hangsOnCollector(texts[i]) {
			return
		}
		limits := someLimits(i)
		want := impl.Evaluate(texts[i], limits)
		first := impl.Run(texts[i], limits)
		for pace := range impl.MaxPace + 1 {
			// Every pace for some of the texts, a few for all.
			if i%12 != 0 && !slices.Contains([]int{0, 1, 2, 7, 10, 50, 99, 100}, pace) {
				continue
			}
			limits.Pace = pace
			got := impl.Run(texts[i], limits)
			if !sameBut(got, want) {
				t.Errorf("%s\npace %d: %s\nevaluated: %s", behindHead(texts[i]), pace, outcomeText(got), outcomeText(want))
			}
			if got.Live < first.Live {
				freed[i]++
			}
		}
	})
	if sumOf(freed) < 500 {
		t.Errorf("the pace frees something but %d times", sumOf(freed))
	}
}

// Under a memory limit what nothing holds is freed ahead of failing, and the failure can be caught.
func TestRunMemory(t *testing.T) {
	t.Parallel()
	const fill = "local t = {} for i = 1, 1000 do\nt[i] = {} end"
	for _, r := range [][2]string{
		{"for i = 1, 3000 do local t = {{}} end return 'done'", "= done"},
		{"local t = {} for i = 1, 3000 do t[i % 10] = {i} end return 'done'", "= done"},
		{fill, "! 1: not enough memory"},
		{"return pcall(function()\n" + fill + " end)", "= false 2: not enough memory"},
		{"write(select(2, pcall(function() " + fill + " end))) local t = {{}, {}, {}} return #t", "1: not enough memory = 3"},
		{"local c = coroutine.create(function() " + fill + " end) write(select(2, coroutine.resume(c))) return coroutine.status(c)", "1: not enough memory = dead"},
	} {
		for _, pace := range paces() {
			limits := paced(pace)
			limits.Memory = 12000
			if got := checkRun(t, r[0], limits); toldShort(got) != r[1] {
				t.Errorf("%s: %s", r[0], outcomeText(got))
			}
		}
	}
}
