package tests

import (
	"fmt"
	"slices"
	"strings"
	"testing"

	"loop.example/g00002/impl"
)

// plenty are limits that a text meets only if it is made to.
func plenty() impl.Limits {
	return impl.Limits{Steps: impl.MaxSteps, Frames: impl.MaxFrames, Output: impl.MaxOutput}
}

func sameOutcome(a, b impl.Outcome) bool {
	return a.Code == b.Code && a.Fault == b.Fault && a.Output == b.Output && a.Error == b.Error && slices.Equal(a.Results, b.Results) &&
		a.Ticks == b.Ticks && a.Made == b.Made && a.Live == b.Live && a.Bytes == b.Bytes
}

func outcomeText(o impl.Outcome) string {
	return fmt.Sprintf("code %d %v, output %s, error %s, results %q, %d steps, made %d, %d, %d",
		o.Code, o.Fault, short(o.Output), short(o.Error), o.Results, o.Ticks, o.Made, o.Live, o.Bytes)
}

// ran is the outcome of a text without a fault, held against a second run, the model, the machine, and promise 23.
func ran(t *testing.T, source string, limits impl.Limits) impl.Outcome {
	t.Helper()
	got := impl.Evaluate(source, limits)
	if got.Code == impl.OutFault || got.Code == impl.OutLimits {
		t.Fatalf("%s\n%s", source, outcomeText(got))
	}
	if again := impl.Evaluate(source, limits); !sameOutcome(got, again) {
		t.Errorf("%s\n%s, then\n%s", short(source), outcomeText(got), outcomeText(again))
	}
	if want := modelEvaluate(source, limits); !sameOutcome(got, want) {
		t.Errorf("%s\n%s, the model:\n%s", short(source), outcomeText(got), outcomeText(want))
	}
	if got.Code != impl.OutBudget {
		checkBudget(t, source, limits, got)
	}
	checkExec(t, source, limits, got)
	limits.Pace = paces()[(len(source)+1)%len(paces())]
	checkRun(t, source, limits)
	return got
}

// checkBudget holds a run against those with just its steps and with one fewer.
func checkBudget(t *testing.T, source string, limits impl.Limits, whole impl.Outcome) {
	t.Helper()
	limits.Steps = whole.Ticks
	if just := impl.Evaluate(source, limits); !sameOutcome(just, whole) {
		t.Errorf("%s\n%s, with just its steps\n%s", short(source), outcomeText(whole), outcomeText(just))
	}
	limits.Steps--
	if limits.Steps == 0 {
		return
	}
	fewer := impl.Evaluate(source, limits)
	isBeginning := strings.HasPrefix(whole.Output, fewer.Output) && fewer.Made <= whole.Made
	want := impl.Outcome{Code: impl.OutBudget, Output: fewer.Output, Ticks: limits.Steps, Made: fewer.Made}
	if !isBeginning || !sameOutcome(fewer, want) {
		t.Errorf("%s\n%s, with one step fewer\n%s", short(source), outcomeText(whole), outcomeText(fewer))
	}
}

// puts holds a text against what it puts out.
func puts(t *testing.T, source, output string) {
	t.Helper()
	if got := ran(t, source, plenty()); got.Code != 0 || got.Output != output {
		t.Errorf("%s\n%s\nnot %q", source, outcomeText(got), output)
	}
}

// fails holds a text against the error that nothing catches.
func fails(t *testing.T, source, message string) {
	t.Helper()
	if got := ran(t, source, plenty()); got.Code != impl.OutError || got.Error != message {
		t.Errorf("%s\n%s\nnot the error %q", source, outcomeText(got), message)
	}
}

// gives holds a text against what it returns, shown and set apart by blanks.
func gives(t *testing.T, source, results string) {
	t.Helper()
	if got := ran(t, source, plenty()); got.Code != 0 || strings.Join(got.Results, " ") != results {
		t.Errorf("%s\n%s\nnot the results %s", source, outcomeText(got), results)
	}
}

// takes holds a text against its steps, the call of the text itself left out.
func takes(t *testing.T, source string, steps int) {
	t.Helper()
	if got := ran(t, source, plenty()); got.Ticks != steps+1 {
		t.Errorf("%s\n%s\nnot 1 + %d steps", source, outcomeText(got), steps)
	}
}

// comesTo holds a run against its whole outcome.
func comesTo(t *testing.T, source string, limits impl.Limits, want impl.Outcome) {
	t.Helper()
	if got := ran(t, source, limits); !sameOutcome(got, want) {
		t.Errorf("%s\n%s, not\n%s", short(source), outcomeText(got), outcomeText(want))
	}
}

// eachLine holds expressions against what they give: a line has an expression, =>, and its values as print tells them
// with blanks between, or ! and the message with which they fail.
func eachLine(t *testing.T, ahead, lines string) {
	t.Helper()
	for _, line := range strings.Split(strings.TrimSpace(lines), "\n") {
		source, want, found := strings.Cut(line, "=>")
		if !found {
			t.Fatalf("no arrow in %q", line)
		}
		want = strings.TrimSpace(want)
		source = ahead + "return " + strings.TrimSpace(source)
		if message, isError := strings.CutPrefix(want, "!"); isError {
			fails(t, source, strings.TrimSpace(message))
			continue
		}
		gives(t, source, want)
	}
}
