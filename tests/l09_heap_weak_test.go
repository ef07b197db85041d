package tests

import (
	"fmt"
	"testing"
)

// In table 1, a root of the mode told, stands the value 3 at the key 2; what is freed hangs on which of them are roots.
func TestHeapModes(t *testing.T) {
	for _, c := range []struct {
		mode          int
		key, value    bool
		first, second string
	}{
		{0, true, true, "3/160 pause", "3/160 pause"},
		{0, true, false, "3/160 pause", "3/160 pause"},
		{0, false, true, "3/160 pause", "3/160 pause"},
		{0, false, false, "3/160 pause", "3/160 pause"},
		{1, true, true, "3/160 pause", "3/160 pause"},
		{1, true, false, "3/160 pause", "3/160 pause"},
		{1, false, true, "2/120 pause frees 2", "2/120 pause"},
		{1, false, false, "1/80 pause frees 2 3", "1/80 pause"},
		{2, true, true, "3/160 pause", "3/160 pause"},
		{2, true, false, "2/120 pause frees 3", "2/120 pause"},
		{2, false, true, "3/160 pause", "3/160 pause"},
		{2, false, false, "2/120 pause frees 3", "1/80 pause frees 2"},
		{3, true, true, "3/160 pause", "3/160 pause"},
		{3, true, false, "2/120 pause frees 3", "2/120 pause"},
		{3, false, true, "2/120 pause frees 2", "2/120 pause"},
		{3, false, false, "1/80 pause frees 2 3", "1/80 pause"},
	} {
		text := fmt.Sprintf("new %d\nnew 0 [2..3]\nobj 1 2 3\n", c.mode)
		if !c.key {
			text += "root 2 0\n"
		}
		if !c.value {
			text += "root 3 0\n"
		}
		name := fmt.Sprintf("mode %d, the key a root: %v, the value: %v", c.mode, c.key, c.value)
		checkHeap(t, name, text+fmt.Sprintf("full -> %s\nfull -> %s", c.first, c.second))
		checkHeap(t, name, text+fmt.Sprintf("step 1000000 -> %s\nstep 1000000 -> %s", c.first, c.second))
	}
}

// At an integer the value hangs on the mode alone.
func TestHeapValuesAtIntegers(t *testing.T) {
	for mode, answers := range [][2]string{
		{"2/120 pause", "2/120 pause"},
		{"2/120 pause", "2/120 pause"},
		{"1/80 pause frees 2", "1/80 pause"},
		{"1/80 pause frees 2", "1/80 pause"},
	} {
		checkHeap(t, fmt.Sprintf("mode %d", mode), fmt.Sprintf(`
			new %d
			new 0
			int 1 1 2
			root 2 0
			full                   -> %s
			full                   -> %s
			int 1 1 1              -> %s`, mode, answers[0], answers[1], answers[1]))
	}
}

// A weak table that nothing holds goes as any other does.
func TestHeapWeakTablesGo(t *testing.T) {
	for mode := range 4 {
		checkHeap(t, fmt.Sprintf("mode %d", mode), fmt.Sprintf(`
			new 0
			new %d
			obj 2 1 1
			obj 2 2 2
			root 2 0
			full                   -> 1/40 pause frees 2`, mode))
	}
}

// An entry that lost its value keeps its key; one that lost its key is nothing's, but its bytes count.
func TestHeapWhatEntriesLose(t *testing.T) {
	for _, mode := range []int{2, 3} {
		checkHeap(t, "the value is lost", fmt.Sprintf(`
			new %d
			new 0 [2..3]
			obj 1 2 3
			root 3 0
			full                   -> 2/120 pause frees 3
			obj 1 2 0              -> 2/120 pause
			obj 1 2 2              -> 2/120 pause
			full                   -> 2/120 pause`, mode))
	}
	for _, mode := range []int{1, 3} {
		checkHeap(t, "the key is lost", fmt.Sprintf(`
			new %d
			new 0 [2..3]
			obj 1 2 3
			root 2 0
			full                   -> 2/120 pause frees 2
			obj 1 3 3              -> 2/160 pause
			int 1 2 3              -> 2/200 pause
			full                   -> 2/200 pause`, mode))
	}
	for mode := range 4 {
		checkHeap(t, "the key of what has no value", fmt.Sprintf(`
			new %d
			new 0
			obj 1 2 1
			obj 1 2 0
			root 2 0
			full                   -> 1/80 pause frees 2
			new 0                  -> #3 2/120 pause
			obj 1 3 1              -> 2/160 pause
			obj 1 3 0              -> 2/160 pause
			obj 1 3 3              -> 2/160 pause`, mode))
	}
}

// Entries without keys are taken out as any others without a value are, and count as such before that.
func TestHeapTakingOutWhatWasLost(t *testing.T) {
	checkHeap(t, "keys", `
		new 1
		new 0 [2..17]
		obj 1 [2..17] 1
		root [2..17] 0         -> 17/1320 pause
		full                   -> 1/680 pause frees 2 3 4 5 6 7 8 9 10 11 12 13 14 15 16 17
		int 1 1 0              -> 1/680 pause
		int 1 1 1              -> 1/80 pause`)
	checkHeap(t, "values", `
		new 2
		new 0
		int 1 [1..16] 2
		root 2 0               -> 2/720 pause
		full                   -> 1/680 pause frees 2
		int 1 16 1             -> 1/680 pause
		int 1 17 1             -> 1/120 pause`)
	for _, c := range []struct{ dropped, bytes int }{{8, 720}, {9, 360}} {
		checkHeap(t, fmt.Sprintf("%d of 16", c.dropped), fmt.Sprintf(`
			new 3
			new 0 [2..17]
			obj 1 [2..17] 1
			root [2..%d] 0
			full
			int 1 1 1              -> %d/%d pause`, c.dropped+1, 17-c.dropped, c.bytes+(16-c.dropped)*40))
	}
}

// What hangs on a weak key, and on that another one, lives as long as the first key, whatever comes first.
func TestHeapChainsOfWeakKeys(t *testing.T) {
	for name, sets := range map[string]string{
		"in order":     "obj 1 3 4\nobj 2 4 5\nobj 1 5 6",
		"backward":     "obj 2 5 6\nobj 1 4 5\nobj 2 3 4",
		"in one table": "obj 1 3 4\nobj 1 4 5\nobj 1 5 6",
		"and backward": "obj 1 5 6\nobj 1 4 5\nobj 1 3 4",
		"in the other": "obj 2 5 6\nobj 2 4 5\nobj 2 3 4",
		"crossed":      "obj 1 4 5\nobj 2 3 4\nobj 2 5 6",
	} {
		checkHeap(t, name, `
			new 1 [1..2]
			new 0 [3..6]
			`+sets+`
			root [4..6] 0          -> 6/360 pause
			full                   -> 6/360 pause
			step 1                 -> 6/360 mark
			step 1                 -> 6/360 mark
			full                   -> 6/360 pause
			root 3 0               -> 6/360 pause
			full                   -> 2/200 pause frees 3 4 5 6`)
	}
	checkHeap(t, "a weak table that hangs on a weak key", `
		new 1
		new 1
		new 0 [3..5]
		obj 2 4 5
		obj 1 3 2
		int 3 1 4
		root 2 0
		root 4 0
		root 5 0               -> 5/320 pause
		full                   -> 5/320 pause
		int 3 1 0              -> 5/320 pause
		full                   -> 3/240 pause frees 4 5
		root 3 0
		full                   -> 1/80 pause frees 2 3`)
	checkHeap(t, "a key that just its own value holds", `
		new 1
		new 0 [2..3]
		obj 1 2 3
		int 3 1 2
		root [2..3] 0          -> 3/200 pause
		full                   -> 1/80 pause frees 2 3`)
	checkHeap(t, "a key that is its own value", `
		new 1
		new 0
		obj 1 2 2
		root 2 0
		full                   -> 1/80 pause frees 2`)
	checkHeap(t, "a key that an integer's value holds", `
		new 1
		new 0 [2..4]
		obj 1 2 3
		int 1 1 4
		int 4 1 2
		root [2..4] 0          -> 4/280 pause
		full                   -> 4/280 pause
		int 1 1 0
		full                   -> 1/120 pause frees 2 3 4`)
	checkHeap(t, "with weak values too, nothing hangs on a key", `
		new 3
		new 0 [2..4]
		obj 1 2 3
		int 3 1 4
		root [3..4] 0          -> 4/240 pause
		full                   -> 2/120 pause frees 3 4`)
	checkHeap(t, "through weak values nothing is held, through their keys it is", `
		new 2
		new 0 [2..5]
		obj 1 2 3
		int 2 1 4
		int 3 1 5
		root 2 0
		root [4..5] 0          -> 5/320 pause
		full                   -> 5/320 pause
		root 3 0
		full                   -> 3/200 pause frees 3 5
		full                   -> 1/80 pause frees 2 4`)
}

// What a long chain of weak keys holds is found, also when each round finds but one more.
func TestHeapLongChains(t *testing.T) {
	checkHeap(t, "backward", `
		new 1
		new 0 [2..50]
		obj 1 [2..49] +1
		root [3..50] 0
		full                   -> 50/3920 pause
		root 2 0
		full                   -> 1/1960 pause frees `+numbered(2, 50))
	text := "new 1\nnew 0 [2..50]\n"
	for n := 49; n >= 2; n-- {
		text += fmt.Sprintf("obj 1 %d %d\n", n, n+1)
	}
	checkHeap(t, "forward", text+`
		root [3..50] 0
		full                   -> 50/3920 pause
		root 2 0
		full                   -> 1/1960 pause frees `+numbered(2, 50))
}

func numbered(first, last int) string {
	text := fmt.Sprint(first)
	for n := first + 1; n <= last; n++ {
		text += fmt.Sprintf(" %d", n)
	}
	return text
}

// What a weak table gets while marking goes on, and what its keys come to hold, counts at the end.
func TestHeapWeakTablesInMarking(t *testing.T) {
	checkHeap(t, "a value that is dropped behind its marking", `
		new 2
		new 0
		int 1 1 2
		step 1                 -> 2/120 mark
		root 2 0
		step 1000000           -> 2/120 pause
		int 2 1 1              -> 2/160 pause
		step 1000000           -> 1/80 pause frees 2`)
	checkHeap(t, "a value behind the scan of its table", `
		new 0
		new 1
		new 0 [3..4]
		int 1 1 4
		root 4 0
		step 3                 -> 4/200 mark
		obj 2 3 4              -> 4/240 mark
		int 1 1 0              -> 4/240 mark
		step 1000000           -> 4/240 pause
		root 3 0
		full                   -> 2/160 pause frees 3 4`)
	checkHeap(t, "an entry that is gone from a scanned table holds nothing", `
		new 1
		new 0 [2..3]
		obj 1 2 3
		root 2 0
		root 3 0
		step 2                 -> 3/160 mark
		obj 1 2 0              -> 3/160 mark
		step 1000000           -> 1/80 pause frees 2 3`)
}
