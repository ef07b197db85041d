package tests

import (
	"fmt"
	"testing"
)

// Those that nothing holds wait in the order in which they got their finalizers; the last one is popped first.
func TestHeapOrderOfWaiting(t *testing.T) {
	checkHeap(t, "by when they got it", `
		new 0 [1..4]
		final 3
		final 1
		final 4
		final 2
		root [1..4] 0
		full                   -> 4/160 pause wait 4
		pop                    -> #2 4/160 pause wait 3
		pop                    -> #4 4/160 pause wait 2
		pop                    -> #1 4/160 pause wait 1
		pop                    -> #3 4/160 pause
		pop                    -> none
		full                   -> 0/0 pause frees 1 2 3 4`)
	checkHeap(t, "those that wait already are older", `
		new 0 [1..4]
		final 4
		final 3
		final 2
		final 1
		root 1 0
		root 3 0
		full                   -> 4/160 pause wait 2
		root 2 0
		root 4 0
		full                   -> 4/160 pause wait 4
		pop                    -> #2 4/160 pause wait 3
		full                   -> 3/120 pause wait 3 frees 2
		pop                    -> #4 3/120 pause wait 2
		pop                    -> #1 3/120 pause wait 1
		pop                    -> #3 3/120 pause`)
	checkHeap(t, "new ones behind a pop", `
		new 0 [1..4]
		final [1..4]
		root [1..2] 0
		full                   -> 4/160 pause wait 2
		pop                    -> #2 4/160 pause wait 1
		root 3 0
		full                   -> 3/120 pause wait 2 frees 2
		pop                    -> #3 3/120 pause wait 1
		pop                    -> #1 3/120 pause
		full                   -> 1/40 pause frees 1 3
		final 4                -> none`)
	checkHeap(t, "got once more, it is the last", `
		new 0 [1..3]
		final [1..3]
		root [1..3] 0
		full                   -> 3/120 pause wait 3
		pop                    -> #3 3/120 pause wait 2
		pop                    -> #2 3/120 pause wait 1
		final 2                -> 3/120 pause wait 1
		pop                    -> #1 3/120 pause
		final 1                -> 3/120 pause
		full                   -> 2/80 pause wait 2 frees 3
		pop                    -> #1 2/80 pause wait 1
		pop                    -> #2 2/80 pause`)
}

// With a finalizer there are two ways to be held no more: by nothing, or just by such as wait.
func TestHeapWhatWaitingHolds(t *testing.T) {
	checkHeap(t, "what hangs on it lives", `
		new 0 [1..4]
		int 2 1 3
		obj 3 4 4
		final 2
		root [2..4] 0          -> 4/240 pause
		full                   -> 4/240 pause wait 1
		full                   -> 4/240 pause wait 1
		pop                    -> #2 4/240 pause
		full                   -> 1/40 pause frees 2 3 4`)
	checkHeap(t, "held by one that waits, it waits too", `
		new 0 [1..2]
		final 1
		final 2
		int 1 1 2
		root [1..2] 0
		full                   -> 2/120 pause wait 2
		pop                    -> #2 2/120 pause wait 1
		full                   -> 2/120 pause wait 1
		pop                    -> #1 2/120 pause
		full                   -> 0/0 pause frees 1 2`)
	checkHeap(t, "a circle", `
		new 0 [1..2]
		int 1 1 2
		int 2 1 1
		final 2
		root [1..2] 0
		full                   -> 2/160 pause wait 1
		pop                    -> #2 2/160 pause
		full                   -> 0/0 pause frees 1 2`)
	checkHeap(t, "what is held doesn't wait", `
		new 0 [1..2]
		int 1 1 2
		final 2
		root 2 0
		full                   -> 2/120 pause
		pop                    -> none
		final 2                -> none
		int 1 1 0
		full                   -> 2/120 pause wait 1`)
	checkHeap(t, "just by a weak value it waits", `
		new 2
		new 0
		int 1 1 2
		final 2
		root 2 0
		full                   -> 2/120 pause wait 1
		final 2                -> gone
		root 2 1               -> gone
		pop                    -> #2 2/120 pause
		full                   -> 1/80 pause frees 2`)
}

func TestHeapBehindPop(t *testing.T) {
	const waits = `
		new 0 [1..2]
		final 2
		root 2 0
		full                   -> 2/80 pause wait 1
	`
	checkHeap(t, "dropped", waits+`
		pop                    -> #2 2/80 pause
		stat                   -> 2/80 pause
		full                   -> 1/40 pause frees 2
		pop                    -> none`)
	checkHeap(t, "a root again", waits+`
		pop                    -> #2 2/80 pause
		root 2 1               -> 2/80 pause
		full                   -> 2/80 pause
		root 2 0               -> 2/80 pause
		full                   -> 1/40 pause frees 2`)
	checkHeap(t, "held again", waits+`
		pop                    -> #2 2/80 pause
		int 1 1 2              -> 2/120 pause
		full                   -> 2/120 pause
		final 2                -> 2/120 pause
		final 2                -> none
		int 1 1 0              -> 2/120 pause
		full                   -> 2/120 pause wait 1
		pop                    -> #2 2/120 pause
		full                   -> 1/80 pause frees 2`)
	checkHeap(t, "popped in marking, it lives on for that cycle", waits+`
		step 1                 -> 2/80 mark wait 1
		pop                    -> #2 2/80 mark
		step 1000000           -> 2/80 pause
		step 1000000           -> 1/40 pause frees 2`)
	checkHeap(t, "popped in sweeping", waits+`
		step 4                 -> 2/80 sweep wait 1
		pop                    -> #2 2/80 sweep
		step 1000000           -> 2/80 pause
		step 1000000           -> 1/40 pause frees 2`)
	checkHeap(t, "popped in marking and held again", waits+`
		step 3                 -> 2/80 mark wait 1
		pop                    -> #2 2/80 mark
		int 1 1 2              -> 2/120 mark
		full                   -> 2/120 pause`)
}

// A table has one finalizer at a time; it has none any longer when it begins to wait.
func TestHeapSecondFinalizer(t *testing.T) {
	checkHeap(t, "at once", `
		new 0
		final 1                -> 1/40 pause
		final 1                -> none
		full                   -> 1/40 pause
		final 1                -> none
		step 1                 -> 1/40 mark
		final 1                -> none
		root 1 0
		full                   -> 1/40 pause wait 1
		pop                    -> #1 1/40 pause
		full                   -> 0/0 pause frees 1`)
	checkHeap(t, "while it waits, at hand as a weak key", `
		new 1
		new 0
		obj 1 2 1
		final 2                -> 2/120 pause
		final 2                -> none
		root 2 0
		full                   -> 2/120 pause wait 1
		final 2                -> 2/120 pause wait 1
		final 2                -> none
		full                   -> 2/120 pause wait 1
		pop                    -> #2 2/120 pause
		full                   -> 2/120 pause wait 1
		pop                    -> #2 2/120 pause
		full                   -> 1/80 pause frees 2`)
	checkHeap(t, "behind the pop", `
		new 0
		final 1
		root 1 0
		full                   -> 1/40 pause wait 1
		pop                    -> #1 1/40 pause
		final 1                -> 1/40 pause
		full                   -> 1/40 pause wait 1
		pop                    -> #1 1/40 pause
		root 1 1               -> 1/40 pause
		final 1                -> 1/40 pause
		final 1                -> none`)
}

// Weak values that begin to wait are lost at once; weak keys that wait stay, with what hangs on them.
func TestHeapWeakTablesAndWaiting(t *testing.T) {
	for _, mode := range []int{2, 3} {
		checkHeap(t, fmt.Sprintf("values in mode %d", mode), fmt.Sprintf(`
			new %d
			new 0 [2..3]
			int 1 1 2
			int 1 2 3
			int 2 1 3
			final 2
			root [2..3] 0          -> 3/240 pause
			full                   -> 3/240 pause wait 1
			int 1 3 2              -> gone
			int 1 3 3              -> gone
			int 1 1 1              -> 3/240 pause wait 1
			int 1 2 1              -> 3/240 pause wait 1
			pop                    -> #2 3/240 pause
			full                   -> 1/120 pause frees 2 3`, mode))
	}
	checkHeap(t, "keys in mode 1", `
		new 1
		new 0 [2..3]
		obj 1 2 3
		final 2
		root [2..3] 0          -> 3/160 pause
		full                   -> 3/160 pause wait 1
		int 1 1 2              -> 3/200 pause wait 1
		int 1 1 3              -> 3/200 pause wait 1
		int 1 1 0              -> 3/200 pause wait 1
		full                   -> 3/200 pause wait 1
		pop                    -> #2 3/200 pause
		full                   -> 1/120 pause frees 2 3`)
	checkHeap(t, "keys in mode 3, the value a root", `
		new 3
		new 0 [2..3]
		obj 1 2 3
		final 2
		root 2 0               -> 3/160 pause
		full                   -> 3/160 pause wait 1
		root 2 0               -> 3/160 pause wait 1
		pop                    -> #2 3/160 pause
		full                   -> 2/120 pause frees 2`)
	checkHeap(t, "keys in mode 3, with the value", `
		new 3
		new 0 [2..3]
		obj 1 2 3
		int 2 1 3
		final 2
		root [2..3] 0          -> 3/200 pause
		full                   -> 3/200 pause wait 1
		root 2 1               -> gone
		pop                    -> #2 3/200 pause
		obj 1 2 2              -> 3/200 pause
		full                   -> 1/80 pause frees 2 3`)
	checkHeap(t, "a weak table that lives on what waits loses what is white", `
		new 0 [1..2]
		new 3
		new 2
		new 1
		new 0 [6..8]
		obj 3 6 7
		obj 4 6 7
		obj 5 7 6
		int 2 1 3
		int 2 2 4
		int 2 3 5
		final 2
		root [2..8] 0          -> 8/560 pause
		full                   -> 6/480 pause wait 1 frees 7 8
		pop                    -> #2 6/480 pause
		root 2 1               -> 6/480 pause
		full                   -> 5/440 pause frees 6`)
}

// Those that wait are marked ahead of all else but the roots, and count as held in each cycle.
func TestHeapWaitingInSteps(t *testing.T) {
	checkHeap(t, "scanned from the last", `
		new 0 [1..3]
		final 2
		final 3
		int 2 [1..5] 1
		root [2..3] 0          -> 3/320 pause
		full                   -> 3/320 pause wait 2
		step 2                 -> 3/320 mark wait 2
		step 6                 -> 3/320 mark wait 2
		step 1                 -> 3/320 mark wait 2
		step 1                 -> 3/320 sweep wait 2
		step 3                 -> 3/320 pause wait 2`)
	checkHeap(t, "they begin to wait at the end of marking", `
		new 0 [1..2]
		final 2
		root 2 0
		step 2                 -> 2/80 mark
		step 1                 -> 2/80 sweep wait 1
		step 2                 -> 2/80 pause wait 1`)
	checkHeap(t, "a finalizer that comes in marking", `
		new 0 [1..2]
		int 1 1 2
		root 2 0
		step 1                 -> 2/120 mark
		final 2                -> 2/120 mark
		int 1 1 0              -> 2/120 mark
		step 2                 -> 2/120 mark
		step 1                 -> 2/120 sweep wait 1
		step 2                 -> 2/120 pause wait 1`)
	checkHeap(t, "a Full that ends a cycle has them wait once", `
		new 0 [1..3]
		final 2
		final 3
		root 2 0
		step 1                 -> 3/120 mark
		root 3 0
		full                   -> 3/120 pause wait 2
		pop                    -> #3 3/120 pause wait 1
		pop                    -> #2 3/120 pause`)
}
