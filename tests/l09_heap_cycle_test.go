package tests

import (
	"fmt"
	"testing"

	"loop.example/g00002/impl"
)

// Four tables: 1, a root, with five entries; 2 with one, 3 with none, both held; 4 with two, held by nothing.
const fourTables = `
	new 0 [1..4]
	int 1 [1..5] 2
	int 2 1 3
	int 4 [1..2] 4
	root [2..4] 0          -> 4/480 pause
`

// A cycle of the four takes 1 unit to begin, 6, 2 and 1 to scan, 1 to end marking, and 4 to sweep.
func TestHeapStepOfEachLength(t *testing.T) {
	for _, c := range []struct {
		least, most, pieces int
		answer              string
	}{
		{1, 1, 8, "4/480 mark"},
		{2, 7, 7, "4/480 mark"},
		{8, 9, 6, "4/480 mark"},
		{10, 10, 5, "4/480 mark"},
		{11, 11, 4, "4/480 sweep"},
		{12, 12, 3, "4/480 sweep"},
		{13, 13, 2, "4/480 sweep"},
		{14, 14, 1, "4/480 sweep"},
		{15, 20, 0, "3/360 pause frees 4"},
		{999999, 1000000, 0, "3/360 pause frees 4"},
	} {
		for units := c.least; units <= c.most; units++ {
			text := fourTables + fmt.Sprintf("step %d -> %s\n", units, c.answer)
			checkHeap(t, fmt.Sprintf("step of %d", units), text+piecesLeft(c.pieces))
		}
	}
}

// piecesLeft asks for so many steps of one unit up to the end of a cycle of the four tables.
func piecesLeft(pieces int) string {
	var text string
	for left := pieces - 1; left >= 0; left-- {
		switch {
		case left > 4:
			text += "step 1 -> 4/480 mark\n"
		case left > 0:
			text += "step 1 -> 4/480 sweep\n"
		default:
			text += "step 1 -> 3/360 pause frees 4\n"
		}
	}
	return text + "stat -> 3/360 pause\n"
}

// Units that are left when a cycle ends, or that scanning takes beyond those left, count for nothing.
func TestHeapStepUnits(t *testing.T) {
	checkHeap(t, "an empty heap", `
		step 1                 -> 0/0 mark
		step 1                 -> 0/0 sweep
		step 1                 -> 0/0 pause
		step 2                 -> 0/0 sweep
		step 2                 -> 0/0 pause
		step 3                 -> 0/0 pause
		step 4                 -> 0/0 pause
		step 1                 -> 0/0 mark`)
	checkHeap(t, "all are freed", `
		new 0 [1..2]
		root [1..2] 0
		step 1                 -> 2/80 mark
		step 1                 -> 2/80 sweep
		step 1                 -> 1/40 sweep frees 1
		step 1                 -> 0/0 pause frees 2
		step 2                 -> 0/0 sweep
		new 0                  -> #3 1/40 sweep
		step 1                 -> 1/40 pause`)
	checkHeap(t, "a table of many entries", `
		new 0
		int 1 [1..100] 1       -> 1/4040 pause
		step 2                 -> 1/4040 mark
		step 1                 -> 1/4040 sweep
		step 1                 -> 1/4040 pause
		step 102               -> 1/4040 mark
		step 2                 -> 1/4040 pause
		step 103               -> 1/4040 sweep
		step 50                -> 1/4040 pause
		step 104               -> 1/4040 pause`)
	checkHeap(t, "a step ends with its cycle", `
		new 0                  -> #1 1/40 pause
		step 2                 -> 1/40 mark
		root 1 0               -> 1/40 mark
		step 1000000           -> 1/40 pause
		step 1000000           -> 0/0 pause frees 1`)
}

// The entries of a table of any mode are its work, with and without a value.
func TestHeapWorkOfEachMode(t *testing.T) {
	for mode := range 4 {
		checkHeap(t, fmt.Sprintf("mode %d", mode), fmt.Sprintf(`
			new %d
			int 1 [1..3] 1
			int 1 [2..3] 0         -> 1/160 pause
			step 5                 -> 1/160 mark
			step 1                 -> 1/160 sweep
			step 1                 -> 1/160 pause
			step 6                 -> 1/160 sweep
			step 1                 -> 1/160 pause
			step 7                 -> 1/160 pause`, mode))
	}
}

// The roots are marked by number and scanned from the last on, whenever they became roots.
func TestHeapOrderOfScanning(t *testing.T) {
	const three = `
		new 0 [1..3]
		int 1 [1..9] 1
		int 3 1 1              -> 3/520 pause
	`
	checkHeap(t, "the last first", three+`
		step 3                 -> 3/520 mark
		step 1                 -> 3/520 mark
		step 9                 -> 3/520 mark
		step 1                 -> 3/520 sweep`)
	checkHeap(t, "by number, not by when they came", three+`
		int 1 1 3
		root 3 0
		root 3 1
		root 1 0               -> 3/520 pause
		root 2 0               -> 3/520 pause
		step 3                 -> 3/520 mark
		step 10                -> 3/520 mark
		step 1                 -> 3/520 sweep`)
	checkHeap(t, "roots once more", three+`
		int 3 2 2
		root 1 0               -> 3/560 pause
		root 2 0               -> 3/560 pause
		root 2 1               -> 3/560 pause
		root 1 1               -> 3/560 pause
		step 4                 -> 3/560 mark
		step 1                 -> 3/560 mark
		step 9                 -> 3/560 mark
		step 1                 -> 3/560 sweep`)
	checkHeap(t, "of an entry the key, then the value, which is scanned first", `
		new 0 [1..3]
		obj 1 2 3
		int 2 [1..4] 2
		root [2..3] 0          -> 3/320 pause
		step 4                 -> 3/320 mark
		int 2 5 2              -> 3/360 mark
		step 1                 -> 3/360 mark
		step 1                 -> 3/360 sweep`)
}

func TestHeapNewInEachState(t *testing.T) {
	checkHeap(t, "in pause", `
		new 0
		new 0                  -> #2 2/80 pause
		root 2 0               -> 2/80 pause
		step 4                 -> 2/80 sweep
		step 1                 -> 1/40 pause frees 2`)
	checkHeap(t, "in marking, a root", `
		new 0
		step 1                 -> 1/40 mark
		new 0                  -> #2 2/80 mark
		step 2                 -> 2/80 sweep
		step 2                 -> 2/80 pause`)
	checkHeap(t, "in marking, and held", `
		new 0
		step 2                 -> 1/40 mark
		new 0                  -> #2 2/80 mark
		int 1 1 2              -> 2/120 mark
		root 2 0               -> 2/120 mark
		step 1                 -> 2/120 sweep
		step 2                 -> 2/120 pause`)
	checkHeap(t, "in marking, held by nothing", `
		new 0
		step 1                 -> 1/40 mark
		new 0                  -> #2 2/80 mark
		root 2 0               -> 2/80 mark
		step 2                 -> 2/80 sweep
		step 2                 -> 1/40 pause frees 2`)
	checkHeap(t, "in sweeping, held by nothing", `
		new 0
		step 3                 -> 1/40 sweep
		new 0                  -> #2 2/80 sweep
		root 2 0               -> 2/80 sweep
		step 1                 -> 2/80 sweep
		step 1                 -> 2/80 pause
		step 5                 -> 1/40 pause frees 2`)
	checkHeap(t, "in sweeping, ahead of the last", `
		new 0 [1..2]
		root 2 0
		step 4                 -> 2/80 sweep
		new 0                  -> #3 3/120 sweep
		step 1                 -> 2/80 sweep frees 2
		new 0                  -> #4 3/120 sweep
		step 1                 -> 3/120 sweep
		step 1                 -> 3/120 pause`)
}

// What has got into a table that was scanned is found, by a look at that table at the end of marking.
func TestHeapBarrier(t *testing.T) {
	for name, c := range map[string]struct {
		mode    int
		set     string
		answers [2]string
	}{
		"a value":               {0, "int 2 1 3", [2]string{"3/200 pause", "3/200 pause"}},
		"a key":                 {0, "obj 2 3 1", [2]string{"3/200 pause", "3/200 pause"}},
		"both":                  {0, "obj 2 3 3", [2]string{"3/200 pause", "3/200 pause"}},
		"at an integer, weak":   {1, "int 2 1 3", [2]string{"3/200 pause", "3/200 pause"}},
		"at a weak key":         {1, "obj 2 1 3", [2]string{"3/200 pause", "3/200 pause"}},
		"a weak key":            {1, "obj 2 3 1", [2]string{"2/160 pause frees 3", "2/160 pause"}},
		"both by a weak key":    {1, "obj 2 3 3", [2]string{"2/160 pause frees 3", "2/160 pause"}},
		"a weak value":          {2, "int 2 1 3", [2]string{"2/160 pause frees 3", "2/160 pause"}},
		"a key of a weak value": {2, "obj 2 3 1", [2]string{"3/200 pause", "3/200 pause"}},
		"its own weak value":    {2, "obj 2 3 3", [2]string{"3/200 pause", "3/200 pause"}},
		"a key, all weak":       {3, "obj 2 3 1", [2]string{"2/160 pause frees 3", "2/160 pause"}},
		"a value, all weak":     {3, "int 2 1 3", [2]string{"2/160 pause frees 3", "2/160 pause"}},
	} {
		checkHeap(t, name, fmt.Sprintf(`
			new 0
			new %d
			new 0
			int 1 1 3
			root 3 0               -> 3/160 pause
			step 2                 -> 3/160 mark
			%s                     -> 3/200 mark
			int 1 1 0              -> 3/200 mark
			step 1000000           -> %s
			full                   -> %s`, c.mode, c.set, c.answers[0], c.answers[1]))
	}
}

// Looking again is part of the end of marking, for one unit, however many entries there are by then.
func TestHeapBarrierTakesNoUnits(t *testing.T) {
	checkHeap(t, "no units", `
		new 0 [1..2]
		int 2 1 1
		root 1 0               -> 2/120 pause
		step 3                 -> 2/120 mark
		int 2 [1..20] 1        -> 2/880 mark
		int 2 [1..20] 0        -> 2/880 mark
		step 1                 -> 2/880 mark
		step 1                 -> 2/880 sweep
		step 2                 -> 2/880 pause
		full                   -> 1/840 pause frees 1`)
	checkHeap(t, "what isn't scanned yet takes its own", `
		new 0 [1..2]
		step 1                 -> 2/80 mark
		int 1 [1..20] 1        -> 2/880 mark
		step 1                 -> 2/880 mark
		step 21                -> 2/880 mark
		step 1                 -> 2/880 sweep`)
	checkHeap(t, "set in sweeping, it is scanned by the next cycle", `
		new 0 [1..2]
		step 4                 -> 2/80 sweep
		int 1 1 2              -> 2/120 sweep
		root 2 0               -> 2/120 sweep
		step 2                 -> 2/120 pause
		step 6                 -> 2/120 sweep
		step 2                 -> 2/120 pause`)
}

// A root that is dropped while marking goes on lives if it was marked; one that comes back is marked at the end.
func TestHeapRootsInMarking(t *testing.T) {
	checkHeap(t, "dropped behind its marking", `
		new 0 [1..2]
		step 1                 -> 2/80 mark
		root 2 0
		step 1000000           -> 2/80 pause
		step 1000000           -> 1/40 pause frees 2`)
	checkHeap(t, "held by what is dropped", `
		new 0 [1..3]
		int 2 1 3
		root 3 0
		step 1                 -> 3/160 mark
		root 2 0
		full                   -> 1/40 pause frees 2 3`)
	checkHeap(t, "back at the end", `
		new 0 [1..2]
		int 1 1 2
		root 2 0
		step 1                 -> 2/120 mark
		root 2 1
		int 1 1 0
		step 1000000           -> 2/120 pause
		step 1000000           -> 2/120 pause`)
}

func TestHeapFullInEachState(t *testing.T) {
	checkHeap(t, "in pause, twice", fourTables+`
		full                   -> 3/360 pause frees 4
		full                   -> 3/360 pause
		int 1 [1..5] 0         -> 3/360 pause
		full                   -> 1/240 pause frees 2 3
		root 1 0
		full                   -> 0/0 pause frees 1
		full                   -> 0/0 pause`)
	checkHeap(t, "in marking", fourTables+`
		step 8                 -> 4/480 mark
		int 1 [1..5] 0         -> 4/480 mark
		full                   -> 1/240 pause frees 4 2 3
		full                   -> 1/240 pause`)
	checkHeap(t, "in sweeping", fourTables+`
		step 11                -> 4/480 sweep
		int 1 [1..5] 0         -> 4/480 sweep
		full                   -> 1/240 pause frees 4 2 3
		full                   -> 1/240 pause`)
	checkHeap(t, "in sweeping, some of it done", `
		new 0 [1..6]
		root 2 0
		root 5 0
		step 8                 -> 5/200 sweep frees 2
		root 1 0
		root 4 0
		full                   -> 2/80 pause frees 5 1 4
		full                   -> 2/80 pause`)
	checkHeap(t, "on an empty heap", `
		full                   -> 0/0 pause
		step 1                 -> 0/0 mark
		full                   -> 0/0 pause
		step 2                 -> 0/0 sweep
		full                   -> 0/0 pause`)
}

// The first limit is 4096 bytes: 102 tables have 4080 of them.
func TestHeapPaceBegins(t *testing.T) {
	const begun = `
		new 0 [1..102]         -> #102 102/4080 pause
		new 0                  -> #103 103/4120 mark
	`
	checkHeap(t, "63 scanned", begun+`
		step 40                -> 103/4120 mark
		step 1                 -> 103/4120 sweep
		step 102               -> 103/4120 sweep
		step 1                 -> 103/4120 pause`)
	checkHeap(t, "without credit", begun+`
		new 0 [1..6]           -> #109 109/4360 mark
		new 0                  -> #110 110/4400 sweep
		step 86                -> 110/4400 sweep
		step 1                 -> 110/4400 pause`)
	checkHeap(t, "entries count, and begin nothing by themselves", `
		new 0
		int 1 [1..101] 1       -> 1/4080 pause
		int 1 102 1            -> 1/4120 pause
		int 1 [103..200] 1     -> 1/8040 pause
		new 0                  -> #2 2/8080 mark
		step 1                 -> 2/8080 sweep
		step 2                 -> 2/8080 pause`)
	checkHeap(t, "a whole cycle of what nothing holds", `
		new 0
		new 0
		int 1 [1..100] 1
		root 1 0               -> 2/4080 pause
		new 0                  -> #3 2/80 pause frees 1`)
	checkHeap(t, "an operation with a code begins nothing", `
		new 0
		int 1 [1..200] 1       -> 1/8040 pause
		new 4                  -> range
		stat                   -> 1/8040 pause`)
}

// Behind a cycle the limit is twice what lives, at least 4096.
func TestHeapLimit(t *testing.T) {
	for _, c := range []struct{ live, most int }{
		{1, 102}, {50, 102}, {51, 102}, {52, 103}, {53, 105}, {60, 119}, {100, 199},
	} {
		checkHeap(t, fmt.Sprintf("%d live", c.live), fmt.Sprintf(`
			new 0 [1..%d]
			full                   -> %d/%d pause
			new 0 [1..%d]          -> #%d %d/%d pause
			new 0                  -> #%d %d/%d mark`,
			c.live, c.live, 40*c.live, c.most-c.live, c.most, c.most, 40*c.most, c.most+1, c.most+1, 40*(c.most+1)))
	}
	checkHeap(t, "it falls too", `
		new 0 [1..2]
		int 2 [1..300] 1       -> 2/12080 pause
		full                   -> 2/12080 pause
		root 2 0
		full                   -> 1/40 pause frees 2
		new 0 [1..101]         -> #103 102/4080 pause
		new 0                  -> #104 103/4120 mark`)
	checkHeap(t, "behind a cycle by steps", `
		new 0 [1..53]
		step 1000000           -> 53/2120 pause
		new 0 [1..52]          -> #105 105/4200 pause
		new 0                  -> #106 106/4240 mark`)
	checkHeap(t, "what lives counts when the cycle ends, not when it began", `
		new 0
		step 3                 -> 1/40 sweep
		int 1 [1..59] 1        -> 1/2400 sweep
		step 1                 -> 1/2400 pause
		new 0 [1..59]          -> #60 60/4760 pause
		new 0                  -> #61 61/4800 mark`)
}

// In marking and sweeping each 256 bytes that came are paid for with 64 units, when a table is made.
func TestHeapCredit(t *testing.T) {
	checkHeap(t, "below the grain", `
		new 0 [1..5]
		step 1                 -> 5/200 mark
		new 0                  -> #6 6/240 mark
		stat                   -> 6/240 mark
		int 1 1 1              -> 6/280 mark
		stat                   -> 6/280 mark
		new 0                  -> #7 7/320 pause`)
	checkHeap(t, "above it", `
		new 0 [1..6]
		step 1                 -> 6/240 mark
		new 0                  -> #7 7/280 pause`)
	const sweeping = `
		new 0 [1..400]
		full                   -> 400/16000 pause
		root [2..400] 0
		step 3                 -> 400/16000 sweep
	`
	checkFreed(t, "just five grains", sweeping+"int 1 [1..31] 1\nnew 0", 2, 320)
	checkFreed(t, "two grains and one byte group fewer", sweeping+"int 1 [1..18] 1\nnew 0", 2, 128)
	checkFreed(t, "what is left counts on", sweeping+"int 1 [1..18] 1\nnew 0\nnew 0", 129, 192)
	checkFreed(t, "one grain", sweeping+"int 1 [1..6] 1\nnew 0", 2, 64)
	checkFreed(t, "one more", sweeping+"int 1 [1..6] 1\nnew 0 [1..7]", 65, 128)
	checkHeap(t, "no grain", sweeping+`
		int 1 [1..5] 1         -> 400/16200 sweep
		new 0                  -> #401 401/16240 sweep
		int 1 [1..5] 0         -> 401/16240 sweep
		int 1 [1..5] 1         -> 401/16240 sweep
		int 1 9 0              -> 401/16240 sweep
		new 4                  -> range
		step 1                 -> 401/16240 sweep
		step 1                 -> 400/16200 sweep frees 2`)
}

// checkFreed asks the last operation to free the tables from one number to another.
func checkFreed(t *testing.T, name, text string, first, last int) {
	t.Helper()
	ops, _ := heapOps(t, text)
	out := checkHeapOps(t, name, ops)
	freed := out.Answers[len(ops)-1].Freed
	if len(freed) != last-first+1 {
		t.Fatalf("%s: %v, not from %d to %d", name, freed, first, last)
	}
	for i, n := range freed {
		if n != first+i {
			t.Fatalf("%s: %v, not from %d to %d", name, freed, first, last)
		}
	}
}

// Behind a cycle, however it ends, there is no credit; beginning one by a step takes none away.
func TestHeapCreditBehindCycle(t *testing.T) {
	for name, cycle := range map[string]string{
		"full":       "full -> 1/1640 pause",
		"steps":      "step 1000000 -> 1/1640 pause",
		"small ones": "step 41 -> 1/1640 mark\nstep 1 -> 1/1640 sweep\nstep 1 -> 1/1640 pause",
	} {
		checkHeap(t, name, `
			new 0
			int 1 [1..40] 1        -> 1/1640 pause
			`+cycle+`
			step 1                 -> 1/1640 mark
			new 0 [1..6]           -> #7 7/1880 mark
			new 0                  -> #8 8/1920 pause`)
	}
	checkHeap(t, "the pace", `
		new 0
		step 3                 -> 1/40 sweep
		int 1 [1..40] 1        -> 1/1640 sweep
		new 0                  -> #2 2/1680 pause
		step 1                 -> 2/1680 mark
		new 0 [1..6]           -> #8 8/1920 mark
		new 0                  -> #9 9/1960 pause`)
}

// What is taken out of a table gives no credit back.
func TestHeapCreditOfWhatIsTakenOut(t *testing.T) {
	checkHeap(t, "taken out", `
		new 0
		step 3                 -> 1/40 sweep
		int 1 [1..16] 1        -> 1/680 sweep
		int 1 [1..16] 0        -> 1/680 sweep
		int 1 17 1             -> 1/80 sweep
		stat                   -> 1/80 sweep
		new 0                  -> #2 2/120 pause`)
	checkHeap(t, "once more", `
		new 0
		full
		int 1 [1..30] 1
		full                   -> 1/1240 pause
		int 1 [1..30] 0
		step 33                -> 1/1240 sweep
		int 1 31 1             -> 1/80 sweep
		new 0 [1..5]           -> #6 6/280 sweep
		new 0                  -> #7 7/320 pause`)
}

// Each number is freed once; within one sweep they go by number.
func TestHeapOrderOfFreeing(t *testing.T) {
	checkHeap(t, "by number", `
		new 0 [1..9]
		root 7 0
		root 3 0
		root 9 0
		root 1 0
		full                   -> 5/200 pause frees 1 3 7 9
		new 0                  -> #10 6/240 pause
		root 10 0
		root 2 0
		step 6                 -> 6/240 sweep
		step 3                 -> 5/200 sweep frees 2
		step 2                 -> 5/200 sweep
		step 1                 -> 4/160 pause frees 10`)
	out := impl.HeapRun(many(impl.HeapOp{Kind: impl.HeapFull}, 50))
	for _, a := range out.Answers {
		if a.Freed != nil {
			t.Errorf("nothing was freed: %v", a.Freed)
		}
	}
}
