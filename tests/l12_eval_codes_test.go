package tests

import (
	"math"
	"strings"
	"testing"

	"loop.example/g00002/impl"
)

// limitCases are values of each limit that are right, and values that are wrong.
func limitCases() []struct {
	set          func(l *impl.Limits, n int)
	right, wrong []int
} {
	return []struct {
		set          func(l *impl.Limits, n int)
		right, wrong []int
	}{
		{func(l *impl.Limits, n int) { l.Steps = n }, []int{1, 2, 99999, 100000}, []int{0, -1, 100001, math.MinInt, math.MaxInt}},
		{func(l *impl.Limits, n int) { l.Frames = n }, []int{1, 2, 199, 200}, []int{0, -1, 201, math.MinInt, math.MaxInt}},
		{func(l *impl.Limits, n int) { l.Memory = n }, []int{0, 4096, 4097, 16777215, 16777216}, []int{1, 40, 4095, -1, -4096, 16777217, math.MinInt, math.MaxInt}},
		{func(l *impl.Limits, n int) { l.Output = n }, []int{0, 1, 65535, 65536}, []int{-1, 65537, math.MinInt, math.MaxInt}},
		{func(l *impl.Limits, n int) { l.Pace = n }, []int{0, 1, 99, 100}, []int{-1, 101, math.MinInt, math.MaxInt}},
	}
}

func TestEvaluateLimits(t *testing.T) {
	t.Parallel()
	fault := impl.Outcome{Code: impl.OutFault, Fault: impl.Fault{Code: impl.FaultToken, Line: 1, At: 3}}
	wrong := impl.Outcome{Code: impl.OutLimits}
	check := func(source string, limits impl.Limits, want impl.Outcome) {
		t.Helper()
		if got := impl.Evaluate(source, limits); !sameOutcome(got, want) {
			t.Errorf("%q with %v: %s, not %s", source, limits, outcomeText(got), outcomeText(want))
		}
	}
	for _, c := range limitCases() {
		for _, n := range c.right {
			limits := plenty()
			c.set(&limits, n)
			check("x =", limits, fault)
			check("", limits, impl.Outcome{Ticks: 1})
			comesTo(t, "", limits, impl.Outcome{Ticks: 1})
		}
		for _, n := range c.wrong {
			limits := plenty()
			c.set(&limits, n)
			check("x =", limits, wrong)
			check("", limits, wrong)
			check("write('x') return 1", limits, wrong)
		}
	}
	check("", impl.Limits{}, wrong)
	check("x =", impl.Limits{}, wrong)
	check("", impl.Limits{Steps: 1, Frames: 1}, impl.Outcome{Ticks: 1})
	check("", impl.Limits{Steps: 1, Frames: 1, Memory: impl.MaxMemory, Output: impl.MaxOutput, Pace: impl.MaxPace}, impl.Outcome{Ticks: 1})
}

// faulty are texts with each kind of fault, by its number.
func faulty() map[int]string {
	names := strings.Join(shortNames(181), ",")
	ups := strings.Join(shortNames(61), ",")
	texts := map[int]string{
		impl.FaultLarge:  times(" ", impl.MaxSource+1),
		impl.FaultByte:   "write('x')\n@",
		impl.FaultString: "write('x') x = 'a",
		impl.FaultEscape: "write('x') x = '\\q'",
		impl.FaultNumber: "write('x') x = 1x",
		impl.FaultLong:   "write('x') x = [[a",
		impl.FaultToken:  "write('x') x = ",
		impl.FaultDepth:  "write('x') x = " + times("(", 200) + "1" + times(")", 200),
		impl.FaultAttrib: "write('x') local x <y> = 1",
		impl.FaultVararg: "write('x') function f() return ... end",
		impl.FaultBreak:  "write('x') break",
		impl.FaultLabel:  "write('x') ::a:: ::a::",
		impl.FaultGoto:   "write('x') goto a",
		impl.FaultConst:  "write('x') local x <const> = 1 x = 2",
		impl.FaultLocals: "write('x') local " + names,
		impl.FaultUpvals: "write('x') local " + ups + " function f() return " + ups + " end",
	}
	for _, c := range large() {
		texts[c.code] = "write('x') " + c.over
	}
	return texts
}

func TestEvaluateFaults(t *testing.T) {
	t.Parallel()
	texts := faulty()
	if len(texts) != 20 {
		t.Errorf("%d kinds of faults", len(texts))
	}
	for code, source := range texts {
		_, fault := impl.Compile(source)
		want := impl.Outcome{Code: impl.OutFault, Fault: fault}
		if got := impl.Evaluate(source, plenty()); fault.Code != code || !sameOutcome(got, want) {
			t.Errorf("%s: %s, not %s (fault %d)", short(source), outcomeText(got), outcomeText(want), code)
		}
		if got := impl.Evaluate(source, impl.Limits{Frames: 1}); !sameOutcome(got, impl.Outcome{Code: impl.OutLimits}) {
			t.Errorf("%s: %s without steps", short(source), outcomeText(got))
		}
	}
	for _, c := range large() {
		if got := ran(t, c.fits, plenty()); got.Code == impl.OutFault {
			t.Errorf("%s: %s", short(c.fits), outcomeText(got))
		}
	}
	for source, fault := range map[string]impl.Fault{
		"x = 1\ny = = 2":                 {Code: impl.FaultToken, Line: 2, At: 10},
		"goto a\nx = = 2":                {Code: impl.FaultToken, Line: 2, At: 11},
		"goto a break":                   {Code: impl.FaultGoto, Line: 1, At: 0},
		"break goto a":                   {Code: impl.FaultBreak, Line: 1, At: 0},
		"goto a " + times("x=1 ", 10000): {Code: impl.FaultLarge, Line: 1, At: 0},
	} {
		if got := impl.Evaluate(source, plenty()); !sameOutcome(got, impl.Outcome{Code: impl.OutFault, Fault: fault}) {
			t.Errorf("%s: %s, not the fault %v", short(source), outcomeText(got), fault)
		}
	}
}

// What is told beside each code.
func TestEvaluateTellsBesideCodes(t *testing.T) {
	t.Parallel()
	const ahead = "write('ab') local s = 'x' .. 'y' "
	limits := plenty()
	comesTo(t, ahead+"return 1, nil, s", limits, impl.Outcome{Output: "ab", Results: []string{"1", "nil", "xy"}, Ticks: 4, Made: 2})
	comesTo(t, ahead, limits, impl.Outcome{Output: "ab", Ticks: 3, Made: 2})
	comesTo(t, ahead+"return", limits, impl.Outcome{Output: "ab", Ticks: 4, Made: 2})
	comesTo(t, ahead+"error('e')", limits, impl.Outcome{Code: impl.OutError, Output: "ab", Error: "1: e", Ticks: 4, Made: 2})
	comesTo(t, ahead+"error()", limits, impl.Outcome{Code: impl.OutError, Output: "ab", Error: "nil", Ticks: 4, Made: 2})
	comesTo(t, ahead+"error({})", limits, impl.Outcome{Code: impl.OutError, Output: "ab", Error: "table: 6", Ticks: 4, Made: 2})
	comesTo(t, ahead+"while true do end", limits, impl.Outcome{Code: impl.OutBudget, Output: "ab", Ticks: 100000, Made: 2})
	comesTo(t, ahead+"while true do s = s .. s end", limits, impl.Outcome{Code: impl.OutError, Output: "ab", Error: "1: string too long", Ticks: 35, Made: 131070})
	comesTo(t, ahead+"s = ('x'):rep(60000) while true do s = s .. '' end", limits, impl.Outcome{Code: impl.OutMade, Output: "ab", Ticks: 70, Made: 2040002})
	limits.Output = 3
	comesTo(t, ahead+"write('cd')", limits, impl.Outcome{Code: impl.OutOutput, Output: "ab", Ticks: 4, Made: 2})
	limits.Steps = 1
	comesTo(t, ahead, limits, impl.Outcome{Code: impl.OutBudget, Ticks: 1})
	limits.Steps = 2
	comesTo(t, ahead, limits, impl.Outcome{Code: impl.OutBudget, Output: "ab", Ticks: 2})
}

// Where two would fit, the first that is met counts.
func TestEvaluateFirstCode(t *testing.T) {
	t.Parallel()
	limits := plenty()
	limits.Steps, limits.Output = 2, 3
	comesTo(t, "write('ab') write('cd')", limits, impl.Outcome{Code: impl.OutBudget, Output: "ab", Ticks: 2})
	limits.Steps = 3
	comesTo(t, "write('ab') write('cd')", limits, impl.Outcome{Code: impl.OutOutput, Output: "ab", Ticks: 3})
	const much = "for i = 1, 33 do local s = ('x'):rep(60000) end "
	limits.Steps = 1000
	comesTo(t, much+"write(('x'):rep(60000))", limits, impl.Outcome{Code: impl.OutMade, Ticks: 69, Made: 2040000})
	comesTo(t, much+"write(('x'):rep(20000))", limits, impl.Outcome{Code: impl.OutOutput, Ticks: 69, Made: 2000000})
	limits.Steps = 68
	comesTo(t, much+"write(('x'):rep(60000))", limits, impl.Outcome{Code: impl.OutBudget, Ticks: 68, Made: 1980000})
	limits.Steps = 69
	comesTo(t, much+"load(('x'):rep(20000))", limits, impl.Outcome{Code: impl.OutMade, Ticks: 69, Made: 2020000})
}

func TestEvaluateMadeAtItsEnd(t *testing.T) {
	t.Parallel()
	const just = "for i = 1, 40 do local s = ('x'):rep(50000) end "
	const fewer = "for i = 1, 39 do local s = ('x'):rep(50000) end "
	comesTo(t, just+"return 1", plenty(), impl.Outcome{Results: []string{"1"}, Ticks: 83, Made: 2000000})
	for _, c := range []struct {
		more string
		made int
	}{
		{"local s = 1 .. ''", 1}, {"local s = 'ab' .. 'c'", 3}, {"local s = type(1)", 6}, {"local s = rawtostring(12)", 2}, {"select(2, 'a', 'bc', 3, 'd')", 3},
		{"local s = ('x'):upper()", 1}, {"local s = ('abc'):match('(.)(.)')", 2}, {"local s = ('abc'):find('(.)(.)')", 2}, {"local s = string.format('%5d', 1)", 5},
		{"load('x')", 1}, {"load('x=1')", 3}, {"load('=')", 1}, {"local s = math.type(1.5)", 5}, {"local s = ('x'):rawgsub('x', 'yz')", 2}, {"local s = string.char(1, 2)", 2},
	} {
		comesTo(t, just+c.more+" write('no')", plenty(), impl.Outcome{Code: impl.OutMade, Ticks: 83, Made: 2000000 + c.made})
		comesTo(t, fewer+c.more+" write('on')", plenty(), impl.Outcome{Output: "on", Ticks: 82, Made: 1950000 + c.made})
	}
	for _, none := range []string{
		"local s = '' .. ''", "local s = #'abc'", "load('')", "select('#', 'abc')", "local s = tonumber('12')", "local s = ('a'):byte()", "local s = rawget({a = 'abc'}, 'a')",
		"local s = getmetatable(setmetatable({}, {__metatable = 'abc'}))", "local s = next({abc = 'def'})", "local s = table.unpack({'abc', 'def'})", "local s = 'abc'",
		"local s = coroutine.status(coroutine.running())", "local s = rawset({}, 'abc', 'def')", "write('')", "collectgarbage('count')", "local s = ({a = 'abc'}).a",
	} {
		if got := ran(t, just+none+" write('on')", plenty()); got.Output != "on" || got.Made != 2000000 {
			t.Errorf("%s: %s", none, outcomeText(got))
		}
	}
	for _, failing := range []string{"string.rep('x', 70000)", "string.rep()", "string.format('%d', 'x')", "{} .. 'x'", "('x'):rep(65536) .. 'x'", "error('abc')"} {
		if got := ran(t, "pcall(function() local s = "+failing+" end)", plenty()); got.Made > 65536 {
			t.Errorf("%s: %s", failing, outcomeText(got))
		}
	}
}

func TestEvaluateOutputAtItsEnd(t *testing.T) {
	t.Parallel()
	limits := plenty()
	limits.Output = 5
	comesTo(t, "write('abc') write('de') write() write('') return 1", limits, impl.Outcome{Output: "abcde", Results: []string{"1"}, Ticks: 6})
	comesTo(t, "write('abc') write('de') write('f')", limits, impl.Outcome{Code: impl.OutOutput, Output: "abcde", Ticks: 4})
	comesTo(t, "write('abc') write('def') write('g')", limits, impl.Outcome{Code: impl.OutOutput, Output: "abc", Ticks: 3})
	comesTo(t, "write('abc', 'de')", limits, impl.Outcome{Output: "abcde", Ticks: 2})
	comesTo(t, "write('abc', 'de', 'f')", limits, impl.Outcome{Code: impl.OutOutput, Ticks: 2})
	comesTo(t, "write(12, 3.5)", limits, impl.Outcome{Output: "123.5", Ticks: 2})
	comesTo(t, "write('abcdef', {})", limits, impl.Outcome{Code: impl.OutError, Error: "1: bad argument #2 to 'write' (string expected, got table)", Ticks: 2})
	if got := ran(t, "print('abcd')", limits); got.Code != 0 || got.Output != "abcd\n" {
		t.Errorf("%s", outcomeText(got))
	}
	if got := ran(t, "print('abcde')", limits); got.Code != impl.OutOutput || got.Output != "abcde" {
		t.Errorf("%s", outcomeText(got))
	}
	limits.Output = 0
	comesTo(t, "write() write('')", limits, impl.Outcome{Ticks: 3})
	comesTo(t, "write(' ')", limits, impl.Outcome{Code: impl.OutOutput, Ticks: 2})
	limits.Output = impl.MaxOutput
	comesTo(t, "write(('x'):rep(65536))", limits, impl.Outcome{Output: times("x", 65536), Ticks: 2, Made: 65536})
	comesTo(t, "write(('x'):rep(65536)) write('x')", limits, impl.Outcome{Code: impl.OutOutput, Output: times("x", 65536), Ticks: 3, Made: 65536})
}

// wraps put a statement into all sorts of places that catch errors, or close, or wait.
func wraps() map[string]string {
	return map[string]string{
		"plain":       "do S end",
		"pcall":       "pcall(function() S end)",
		"pcall twice": "pcall(pcall, function() S end)",
		"xpcall":      "xpcall(function() S end, function() write('handled') end)",
		"handler":     "xpcall(error, function() S end)",
		"coroutine":   "coroutine.resume(coroutine.create(function() S end))",
		"wrap":        "coroutine.wrap(function() S end)()",
		"waited":      "local c = coroutine.wrap(function() coroutine.yield() S end) c() pcall(c)",
		"inside":      "coroutine.wrap(function() pcall(coroutine.wrap(function() pcall(function() S end) end)) end)()",
		"closing":     "pcall(function() local x <close> = setmetatable({}, {__close = function() S end}) end)",
		"closed":      "local c = coroutine.create(function() local x <close> = setmetatable({}, {__close = function() S end}) coroutine.yield() end) coroutine.resume(c) coroutine.close(c)",
		"guarded":     "pcall(function() local x <close> = setmetatable({}, {__close = function() write('closed') end}) S end)",
		"index":       "local x = setmetatable({}, {__index = function() S end}).y",
		"newindex":    "setmetatable({}, {__newindex = function() S end}).y = 1",
		"add":         "local x = setmetatable({}, {__add = function() S end}) + 1",
		"less":        "local x = setmetatable({}, {__lt = function() S end}) x = x < x",
		"equal":       "local x = setmetatable({}, {__eq = function() S end}) x = x == {}",
		"call":        "setmetatable({}, {__call = function() S end})()",
		"iterator":    "for i in function() S end do end",
		"sort":        "table.sort({2, 1}, function() S end)",
		"gsub":        "string.gsub('x', 'x', function() S end)",
		"load":        "pcall(load([==[S]==]))",
		"tostring":    "print(setmetatable({}, {__tostring = function() S end}))",
		"last":        "local function f() return pcall(function() S end) end f()",
	}
}

// Nothing catches an end of the run; nothing is closed by it, and what was put out ahead of it stays.
func TestEvaluateEndsWhateverRuns(t *testing.T) {
	t.Parallel()
	for _, c := range []struct {
		code      int
		statement string
	}{
		{impl.OutBudget, "while true do end"},
		{impl.OutBudget, "for i = 1, 1000000 do end"},
		{impl.OutMade, "local s = ('x'):rep(60000) for i = 1, 40 do local r = s .. i end"},
		{impl.OutOutput, "write(('x'):rep(101))"},
	} {
		for name, wrap := range wraps() {
			limits := plenty()
			limits.Steps, limits.Output = 400, 100
			for range 2 {
				source := "write('before ') " + strings.ReplaceAll(wrap, "S", "write('in ') "+c.statement) + " write('after')"
				got := ran(t, source, limits)
				if got.Code != c.code || got.Output != "before in " || got.Error != "" || got.Results != nil {
					t.Errorf("%s, %d: %s\n%s", name, c.code, outcomeText(got), source)
				}
				wrap = strings.ReplaceAll(wraps()["guarded"], "S", wrap)
			}
		}
	}
	for name, wrap := range wraps() {
		source := "write('before ') " + strings.ReplaceAll(wrap, "S", "write('in ')") + " write('after')"
		if got := ran(t, source, plenty()); !strings.HasPrefix(got.Output, "before in ") {
			t.Errorf("%s: %s", name, outcomeText(got))
		}
	}
}
