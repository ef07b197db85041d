package tests

import (
	"fmt"
	"math"
	"strings"
	"testing"

	"loop.example/g00002/impl"
)

const (
	least    = "-9223372036854775808"
	greatest = "9223372036854775807"
)

func TestHeapWithoutOperations(t *testing.T) {
	for _, ops := range [][]impl.HeapOp{nil, {}} {
		if out := impl.HeapRun(ops); out.Code != 0 || len(out.Answers) != 0 {
			t.Errorf("no operations: %v", out)
		}
	}
}

func TestHeapWithManyOperations(t *testing.T) {
	ops, _ := heapOps(t, "new 0 [1..5000]")
	out := checkHeapOps(t, "the most operations", ops)
	if len(out.Answers) != 5000 || out.Answers[4999].Id != 5000 || out.Answers[4999].Live != 5000 {
		t.Errorf("5000 operations: %d answers", len(out.Answers))
	}
	for _, count := range []int{5001, 5002, 10000} {
		if out := impl.HeapRun(make([]impl.HeapOp, count)); out.Code != impl.HeapLarge || out.Answers != nil {
			t.Errorf("%d operations: code %d and %d answers", count, out.Code, len(out.Answers))
		}
	}
}

func TestHeapCodes(t *testing.T) {
	checkHeap(t, "no such kind", `
		0 1 1 1                -> kind
		10 1 1 1               -> kind
		-1 1 1 1               -> kind
		`+greatest+`           -> kind
		`+least+`              -> kind
		stat                   -> 0/0 pause
		new 0                  -> #1 1/40 pause
		10 1 1 1               -> kind
		0 1 1 1                -> kind
		stat                   -> 1/40 pause`)
	checkHeap(t, "modes", `
		new -1                 -> range
		new 4                  -> range
		new `+least+`          -> range
		new `+greatest+`       -> range
		stat                   -> 0/0 pause
		new 0 5 -5             -> #1 1/40 pause
		new 1                  -> #2 2/80 pause
		new 2                  -> #3 3/120 pause
		new 3                  -> #4 4/160 pause
		new 4                  -> range
		new 0                  -> #5 5/200 pause`)
	checkHeap(t, "nothing waits", `
		pop                    -> none
		new 0                  -> #1 1/40 pause
		pop                    -> none
		pop 1 1 1              -> none
		final 1                -> 1/40 pause
		pop                    -> none
		stat 7 7 7             -> 1/40 pause
		full 7 7 7             -> 1/40 pause
		pop                    -> none`)
	checkHeap(t, "steps", `
		step 0                 -> range
		step -1                -> range
		step 1000001           -> range
		step `+least+`         -> range
		step `+greatest+`      -> range
		stat                   -> 0/0 pause
		step 1 9 9             -> 0/0 mark
		step 0                 -> range
		step 1000001           -> range
		stat                   -> 0/0 mark
		step 1000000           -> 0/0 pause`)
}

// Numbers of which no table is at hand: those of none, of one that is freed, of one that nothing holds, of one to come.
func TestHeapGone(t *testing.T) {
	const tables = `
		new 0                  -> #1 1/40 pause
		new 0                  -> #2 2/80 pause
		root 2 0               -> 2/80 pause
		full                   -> 1/40 pause frees 2
		new 0                  -> #3 2/80 pause
		root 3 0               -> 2/80 pause
	`
	wrong := []string{"2", "3", "4", "5", "-1", "1000000", least, greatest}
	for _, n := range append(wrong, "0") {
		var lines []string
		for _, form := range []string{
			"int N 1 1", "int N 1 0", "obj N 1 1", "obj 1 N 1", "obj 1 N 0", "obj N 1 0", "obj N N N", "root N 0", "root N 1", "final N",
			"root N 2", "root N -1", "root N " + least, "root N " + greatest,
		} {
			lines = append(lines, strings.ReplaceAll(form, "N", n)+" -> gone")
		}
		checkHeap(t, "gone", tables+strings.Join(lines, "\n")+"\nstat -> 2/80 pause\nfull -> 1/40 pause frees 3\npop -> none")
	}
	for _, n := range wrong {
		checkHeap(t, "gone as a value", tables+
			"int 1 1 "+n+" -> gone\nobj 1 1 "+n+" -> gone\nstat -> 2/80 pause\nint 1 1 1 -> 2/120 pause")
	}
	checkHeap(t, "nil as a value", tables+"int 1 1 0 -> 2/80 pause\nobj 1 1 0 -> 2/80 pause")
}

func TestHeapRoots(t *testing.T) {
	checkHeap(t, "neither a root nor none", `
		new 0
		root 1 2               -> range
		root 1 -1              -> range
		root 1 `+least+`       -> range
		root 1 `+greatest+`    -> range
		full                   -> 1/40 pause
		root 1 1               -> 1/40 pause
		root 1 1               -> 1/40 pause
		full                   -> 1/40 pause
		root 1 0               -> 1/40 pause
		root 1 0               -> gone
		root 1 1               -> gone
		root 1 2               -> gone
		full                   -> 0/0 pause frees 1`)
	checkHeap(t, "a root once is a root, and none once is none", `
		new 0 [1..3]
		int 1 1 2
		root 2 1
		root 2 1
		root 2 0               -> 3/160 pause
		root 2 0               -> 3/160 pause
		int 1 1 0              -> 3/160 pause
		root 2 1               -> gone
		full                   -> 2/120 pause frees 2`)
	checkHeap(t, "a root again", `
		new 0 [1..3]
		int 1 1 2
		root 2 0
		root 2 1
		int 1 1 0
		full                   -> 3/160 pause
		root 2 0
		full                   -> 2/120 pause frees 2`)
}

// What is at hand is reached by keys and values alike, whatever the mode; an entry without a value holds nothing out.
func TestHeapAtHand(t *testing.T) {
	for mode := range 4 {
		checkHeap(t, fmt.Sprintf("mode %d", mode), fmt.Sprintf(`
			new %d                 -> #1 1/40 pause
			new 0                  -> #2 2/80 pause
			new 0                  -> #3 3/120 pause
			obj 1 2 3              -> 3/160 pause
			root 2 0               -> 3/160 pause
			root 3 0               -> 3/160 pause
			int 2 1 1              -> 3/200 pause
			int 3 1 1              -> 3/240 pause
			int 1 1 2              -> 3/280 pause
			int 1 1 0              -> 3/280 pause
			root 2 0               -> 3/280 pause
			final 2                -> 3/280 pause
			final 3                -> 3/280 pause
			obj 1 2 0              -> 3/280 pause
			int 2 1 1              -> gone
			obj 1 2 1              -> gone
			root 2 1               -> gone
			final 2                -> gone
			int 3 1 1              -> gone
			int 1 1 3              -> gone
			root 3 1               -> gone
			final 3                -> gone
			int 1 1 1              -> 3/280 pause`, mode))
		checkHeap(t, fmt.Sprintf("a way through mode %d", mode), fmt.Sprintf(`
			new 0
			new %d
			new %d
			new 0
			obj 1 2 2
			obj 2 3 3
			int 3 -5 4
			root 2 0
			root 3 0
			root 4 0
			int 4 1 4              -> 4/320 pause
			int 3 -5 0             -> 4/320 pause
			int 4 1 4              -> gone
			obj 2 3 2              -> 4/320 pause
			root 3 0               -> 4/320 pause
			obj 2 3 0              -> 4/320 pause
			root 3 0               -> gone
			root 1 0               -> 4/320 pause
			root 1 1               -> gone
			root 2 1               -> gone`, mode, mode))
	}
}

// waiting makes tables 2 and 3 wait, of which 2 holds 4; table 1 is a root.
const waiting = `
	new 0 [1..4]
	final 2
	final 3
	int 2 1 4
	root [2..4] 0
	full                   -> 4/200 pause wait 2
`

// What was popped is at hand for one operation, whatever that is, and just this one table.
func TestHeapAtHandBehindPop(t *testing.T) {
	for name, text := range map[string]string{
		"nothing popped": `
			root 2 1               -> gone
			root 3 1               -> gone`,
		"into a table": `
			pop                    -> #3 4/200 pause wait 1
			int 1 1 3              -> 4/240 pause wait 1
			int 3 1 3              -> 4/280 pause wait 1`,
		"as a key": `
			pop                    -> #3 4/200 pause wait 1
			obj 1 3 1              -> 4/240 pause wait 1
			root 3 1               -> 4/240 pause wait 1`,
		"itself": `
			pop                    -> #3 4/200 pause wait 1
			obj 3 3 3              -> 4/240 pause wait 1
			obj 3 3 3              -> gone`,
		"as no root": `
			pop                    -> #3 4/200 pause wait 1
			root 3 0               -> 4/200 pause wait 1
			root 3 0               -> gone`,
		"a finalizer": `
			pop                    -> #3 4/200 pause wait 1
			final 3                -> 4/200 pause wait 1
			final 3                -> gone
			full                   -> 4/200 pause wait 2
			pop                    -> #3 4/200 pause wait 1`,
		"what hangs on it is not": `
			pop                    -> #3 4/200 pause wait 1
			pop                    -> #2 4/200 pause
			int 1 1 4              -> gone
			int 1 1 2              -> gone`,
		"what hangs on it is not, as what is set": `
			pop
			pop                    -> #2 4/200 pause
			int 2 1 4              -> gone`,
		"but it is": `
			pop
			pop                    -> #2 4/200 pause
			int 2 2 1              -> 4/240 pause
			root 2 1               -> gone`,
		"behind a look": `
			pop                    -> #3 4/200 pause wait 1
			stat                   -> 4/200 pause wait 1
			root 3 1               -> gone`,
		"behind a code": `
			pop                    -> #3 4/200 pause wait 1
			root 3 2               -> range
			root 3 1               -> gone`,
		"behind gone": `
			pop                    -> #3 4/200 pause wait 1
			int 3 1 4              -> gone
			root 3 1               -> gone`,
		"behind no kind": `
			pop                    -> #3 4/200 pause wait 1
			99                     -> kind
			root 3 1               -> gone`,
		"behind a wrong mode": `
			pop                    -> #3 4/200 pause wait 1
			new 4                  -> range
			root 3 1               -> gone`,
		"behind another": `
			pop                    -> #3 4/200 pause wait 1
			pop                    -> #2 4/200 pause
			root 3 1               -> gone
			root 2 1               -> gone`,
		"another": `
			pop                    -> #3 4/200 pause wait 1
			pop                    -> #2 4/200 pause
			root 2 1               -> 4/200 pause
			root 4 1               -> 4/200 pause`,
		"behind none": `
			pop                    -> #3 4/200 pause wait 1
			pop                    -> #2 4/200 pause
			pop                    -> none
			root 2 1               -> gone`,
		"behind a Full": `
			pop                    -> #3 4/200 pause wait 1
			full                   -> 3/160 pause wait 1 frees 3
			root 3 1               -> gone`,
		"behind a new one": `
			pop                    -> #3 4/200 pause wait 1
			new 0                  -> #5 5/240 pause wait 1
			int 5 1 3              -> gone`,
	} {
		checkHeap(t, name, waiting+text)
	}
}

func TestHeapSetting(t *testing.T) {
	checkHeap(t, "an entry stays", `
		new 0
		new 0                  -> #2 2/80 pause
		int 1 7 2              -> 2/120 pause
		int 1 7 2              -> 2/120 pause
		int 1 7 1              -> 2/120 pause
		int 1 7 0              -> 2/120 pause
		int 1 7 0              -> 2/120 pause
		int 1 7 2              -> 2/120 pause
		int 1 8 0              -> 2/120 pause
		int 1 8 2              -> 2/160 pause
		obj 1 2 0              -> 2/160 pause
		obj 1 2 2              -> 2/200 pause
		obj 1 2 1              -> 2/200 pause
		obj 1 2 0              -> 2/200 pause
		obj 1 2 2              -> 2/200 pause
		obj 1 1 2              -> 2/240 pause
		full                   -> 2/240 pause`)
	checkHeap(t, "integers and tables are keys of their own", `
		new 0 [1..3]
		int 1 2 1              -> 3/160 pause
		obj 1 2 1              -> 3/200 pause
		int 1 3 1              -> 3/240 pause
		obj 1 3 1              -> 3/280 pause
		int 1 2 0              -> 3/280 pause
		obj 1 3 0              -> 3/280 pause
		int 2 2 1              -> 3/320 pause`)
	checkHeap(t, "all integers are keys", `
		new 0
		int 1 0 1              -> 1/80 pause
		int 1 -1 1             -> 1/120 pause
		int 1 1 1              -> 1/160 pause
		int 1 `+least+` 1      -> 1/200 pause
		int 1 `+greatest+` 1   -> 1/240 pause
		int 1 4294967296 1     -> 1/280 pause
		int 1 `+least+` 0      -> 1/280 pause
		int 1 `+greatest+` 1   -> 1/280 pause
		int 1 -1 1             -> 1/280 pause
		int 1 0 1              -> 1/280 pause`)
	checkHeap(t, "a value that is taken away isn't held", `
		new 0 [1..3]
		obj 1 2 3
		root [2..3] 0
		full                   -> 3/160 pause
		obj 1 2 0              -> 3/160 pause
		full                   -> 1/80 pause frees 2 3
		int 1 5 1              -> 1/120 pause`)
}

// With fewer than 16 entries, or no more than half of them without a value, none is taken out.
func TestHeapTakingOut(t *testing.T) {
	for _, count := range []int{1, 2, 14, 15, 16, 17, 18, 19, 40} {
		for bare := range count + 1 {
			kept := count
			if count >= 16 && bare > count/2 {
				kept = count - bare
			}
			name := fmt.Sprintf("%d entries, %d of them without a value", count, bare)
			text := fmt.Sprintf("new 0\nint 1 [1..%d] 1\n", count)
			if bare > 0 {
				text += fmt.Sprintf("int 1 [1..%d] 0 -> 1/%d pause\n", bare, 40+40*count)
			}
			checkHeap(t, name, text+fmt.Sprintf("int 1 0 0 -> 1/%d pause\nint 1 %d 1 -> 1/%d pause",
				40+40*count, count+1, 40+40*(kept+1)))
			if bare < count {
				checkHeap(t, name+", one that is there set", text+fmt.Sprintf("int 1 %d 1 -> 1/%d pause", count, 40+40*count))
			}
		}
	}
}

// What was taken out is gone, what wasn't is where it was; an entry that gets a value again takes none out.
func TestHeapBehindTakingOut(t *testing.T) {
	checkHeap(t, "from the front", `
		new 0
		int 1 [1..16] 1        -> 1/680 pause
		int 1 [1..9] 0         -> 1/680 pause
		int 1 20 1             -> 1/360 pause
		int 1 [10..16] 1       -> 1/360 pause
		int 1 20 0             -> 1/360 pause
		int 1 1 0              -> 1/360 pause
		int 1 1 1              -> 1/400 pause
		int 1 9 1              -> 1/440 pause`)
	checkHeap(t, "from the end", `
		new 0
		int 1 [1..16] 1
		int 1 [8..16] 0        -> 1/680 pause
		int 1 20 1             -> 1/360 pause
		int 1 [1..7] 0         -> 1/360 pause
		int 1 [1..7] 1         -> 1/360 pause
		int 1 8 1              -> 1/400 pause`)
	checkHeap(t, "all of them", `
		new 0
		int 1 [1..30] 1        -> 1/1240 pause
		int 1 [1..30] 0        -> 1/1240 pause
		int 1 30 0             -> 1/1240 pause
		int 1 30 1             -> 1/1240 pause
		int 1 30 0             -> 1/1240 pause
		int 1 31 1             -> 1/80 pause
		int 1 1 1              -> 1/120 pause`)
	checkHeap(t, "a value again", `
		new 0
		int 1 [1..16] 1
		int 1 [1..9] 0
		int 1 1 1              -> 1/680 pause
		int 1 17 1             -> 1/720 pause
		int 1 1 0              -> 1/720 pause
		int 1 18 1             -> 1/400 pause`)
	checkHeap(t, "twice", `
		new 0
		int 1 [1..16] 1
		int 1 [1..9] 0
		int 1 [17..25] 1       -> 1/680 pause
		int 1 [10..17] 0       -> 1/680 pause
		int 1 26 1             -> 1/720 pause
		int 1 18 0
		int 1 27 1             -> 1/400 pause`)
	checkHeap(t, "tables as keys", `
		new 0 [1..17]
		obj 1 [2..17] 1        -> 17/1320 pause
		obj 1 [2..10] 0        -> 17/1320 pause
		obj 1 1 1              -> 17/1000 pause
		obj 1 [11..17] 0       -> 17/1000 pause
		obj 1 2 1              -> 17/1040 pause`)
}

// Any operation may come, with any numbers.
func TestHeapWithAnyNumbers(t *testing.T) {
	numbers := []int{math.MinInt, math.MinInt + 1, -2, -1, 0, 1, 2, 3, 4, 5, math.MaxInt32, math.MaxInt - 1, math.MaxInt}
	var ops []impl.HeapOp
	for kind := -1; kind <= 10; kind++ {
		for _, a := range numbers {
			for _, b := range numbers {
				ops = append(ops, impl.HeapOp{Kind: kind, A: a, B: b, C: numbers[(len(ops)*7)%len(numbers)]})
			}
		}
	}
	g := &grower{chance: words(len(ops))}
	for i := range ops {
		j := g.pick(i + 1)
		ops[i], ops[j] = ops[j], ops[i]
	}
	checkHeapOps(t, "any numbers", ops)
}
