package tests

import (
	"fmt"
	"maps"
	"reflect"
	"slices"
	"testing"

	"loop.example/g00002/impl"
)

// rowKind says how rows of operations are made at random.
type rowKind struct {
	name    string
	modes   []int
	finals  bool
	longest int // the longest step
	weights [10]int
}

func rowKinds() []rowKind {
	even := [10]int{0, 20, 20, 20, 20, 8, 8, 1, 8, 1}
	plain := [10]int{0, 20, 20, 20, 25, 0, 10, 3, 0, 1}
	return []rowKind{
		{"all", []int{0, 0, 1, 2, 3}, true, 12, even},
		{"strong", []int{0}, true, 12, even},
		{"weak keys", []int{0, 1, 1}, true, 6, even},
		{"weak values", []int{0, 2, 2}, true, 6, even},
		{"both weak", []int{0, 3, 3}, true, 6, even},
		{"without finalizers", []int{0, 1, 2, 3}, false, 8, plain},
		{"by the pace", []int{0, 0, 1, 2, 3}, true, 1, [10]int{0, 30, 30, 10, 25, 5, 0, 0, 3, 0}},
		{"that can be told", []int{0, 0, 1, 3}, false, 8, plain},
	}
}

// rowMaker makes operations, most of them on tables that may well be at hand.
type rowMaker struct {
	*grower
	kind   rowKind
	made   int
	recent int // how far back it takes its tables from
}

func (r *rowMaker) row(count int) []impl.HeapOp {
	var ops []impl.HeapOp
	for range count {
		ops = append(ops, r.op())
	}
	return ops
}

func (r *rowMaker) op() impl.HeapOp {
	kind := r.pickKind()
	if r.made == 0 {
		kind = impl.HeapNew
	}
	switch kind {
	case impl.HeapNew:
		r.made++
		return impl.HeapOp{Kind: kind, A: r.kind.modes[r.pick(len(r.kind.modes))]}
	case impl.HeapSetInt:
		return impl.HeapOp{Kind: kind, A: r.table(), B: r.pick(24), C: r.tableOrNil()}
	case impl.HeapSetObj:
		return impl.HeapOp{Kind: kind, A: r.table(), B: r.table(), C: r.tableOrNil()}
	case impl.HeapRoot:
		return impl.HeapOp{Kind: kind, A: r.table(), B: max(0, r.pick(5)-3)}
	case impl.HeapFinal:
		return impl.HeapOp{Kind: kind, A: r.table()}
	case impl.HeapStep:
		return impl.HeapOp{Kind: kind, A: 1 + r.pick(r.kind.longest)}
	}
	return impl.HeapOp{Kind: kind}
}

func (r *rowMaker) pickKind() int {
	sum := 0
	for _, w := range r.kind.weights {
		sum += w
	}
	n := r.pick(sum)
	for kind, w := range r.kind.weights {
		if n < w {
			return kind
		}
		n -= w
	}
	return impl.HeapStat
}

func (r *rowMaker) table() int { return max(1, r.made-r.pick(r.recent)) }

func (r *rowMaker) tableOrNil() int {
	if r.pick(4) == 0 {
		return 0
	}
	return r.table()
}

// eachRow makes rows of operations of all kinds, of several lengths.
func eachRow(count int, do func(kind rowKind, ops []impl.HeapOp)) {
	chance := words(1 << 20)
	for _, kind := range rowKinds() {
		for i := range count {
			length := []int{10, 30, 80, 200}[i%4]
			maker := &rowMaker{grower: &grower{chance: chance[:5*length]}, kind: kind, recent: []int{4, 8, 30, 100}[i%4]}
			chance = chance[5*length:]
			do(kind, maker.row(length))
		}
	}
}

func TestHeapAsTheModel(t *testing.T) {
	eachRow(300, func(kind rowKind, ops []impl.HeapOp) { checkHeapOps(t, kind.name, ops) })
}

// Long rows come to the pace, to tables of many entries and to whole cycles among small steps.
func TestHeapAsTheModelInLongRows(t *testing.T) {
	for i, kind := range rowKinds() {
		maker := &rowMaker{grower: &grower{chance: words(40000)[1000*i:]}, kind: kind, recent: []int{40, 300}[i%2]}
		checkHeapOps(t, kind.name+", long", maker.row(5000))
	}
}

// All rows of four operations behind a few tables, in which each may come behind each.
func TestHeapAsTheModelInShortRows(t *testing.T) {
	for mode := range 4 {
		begun, _ := heapOps(t, fmt.Sprintf("new 0\nnew %d\nnew 0\nobj 2 3 1\nint 1 1 2\nfinal 3\nroot 3 0", mode))
		choices, _ := heapOps(t, `
			new 0
			int 1 1 0
			int 1 1 3
			obj 2 3 3
			obj 2 3 0
			int 3 2 1
			root 2 0
			root 3 1
			final 2
			step 1
			step 3
			full
			pop`)
		count := len(choices) * len(choices) * len(choices) * len(choices)
		for n := range count {
			ops := slices.Clone(begun)
			for left := n; len(ops) < len(begun)+4; left /= len(choices) {
				ops = append(ops, choices[left%len(choices)])
			}
			checkHeapOps(t, "a short row", append(ops, impl.HeapOp{Kind: impl.HeapFull}))
		}
	}
}

// account is a plain account of what tables hold, kept by what was asked for and which numbers were told as freed.
type account struct {
	modes   map[int]int
	roots   map[int]bool
	entries map[int]map[modelKey]int
}

func newAccount() *account {
	return &account{map[int]int{}, map[int]bool{}, map[int]map[modelKey]int{}}
}

// follow takes note of an operation that was carried out.
func (a *account) follow(op impl.HeapOp, told impl.HeapAns) {
	switch op.Kind {
	case impl.HeapNew:
		a.modes[told.Id] = op.A
		a.roots[told.Id] = true
		a.entries[told.Id] = map[modelKey]int{}
	case impl.HeapSetInt:
		a.set(op.A, modelKey{"integer", op.B}, op.C)
	case impl.HeapSetObj:
		a.set(op.A, modelKey{"table", op.B}, op.C)
	case impl.HeapRoot:
		delete(a.roots, op.A)
		if op.B == 1 {
			a.roots[op.A] = true
		}
	}
}

func (a *account) set(n int, key modelKey, to int) {
	delete(a.entries[n], key)
	if to != 0 {
		a.entries[n][key] = to
	}
}

// drop takes note of a table that is freed: no entry has it as key or value any more.
func (a *account) drop(n int) {
	delete(a.modes, n)
	delete(a.entries, n)
	for _, entries := range a.entries {
		maps.DeleteFunc(entries, func(key modelKey, to int) bool { return to == n || key == modelKey{"table", n} })
	}
}

// comeTo are the tables that can be come to from the roots through tables that aren't weak, and as values of weak keys
// that can.
func (a *account) comeTo() map[int]bool {
	found := maps.Clone(a.roots)
	for before := -1; before != len(found); {
		before = len(found)
		for _, n := range slices.Collect(maps.Keys(found)) {
			for key, to := range a.entries[n] {
				isTable := key.kind == "table"
				switch {
				case a.modes[n] == 0:
					found[to] = true
					if isTable {
						found[key.n] = true
					}
				case a.modes[n] == 1 && (!isTable || found[key.n]):
					found[to] = true
				}
			}
		}
	}
	return found
}

// Promise 12: what can be come to is never freed, and nothing is freed twice.
func TestHeapFreesNothingThatCanBeComeTo(t *testing.T) {
	freed := 0
	eachRow(100, func(kind rowKind, ops []impl.HeapOp) {
		a := newAccount()
		for at, told := range impl.HeapRun(ops).Answers {
			if told.Code != 0 {
				continue
			}
			a.follow(ops[at], told)
			alive := a.comeTo()
			for _, n := range told.Freed {
				if _, lives := a.modes[n]; !lives || alive[n] {
					t.Fatalf("%s: operation %d of %v frees %d", kind.name, at, heapText(ops), n)
				}
				a.drop(n)
				freed++
			}
			if told.Live != len(a.modes) {
				t.Fatalf("%s: operation %d of %v: %d live, not %d", kind.name, at, heapText(ops), told.Live, len(a.modes))
			}
		}
	})
	if freed < 1000 {
		t.Errorf("just %d tables were freed", freed)
	}
}

// Promise 13: behind Full, without finalizers and weak values alone, just what can be come to lives.
func TestHeapFullFreesAllElse(t *testing.T) {
	fulls := 0
	eachRow(200, func(kind rowKind, ops []impl.HeapOp) {
		if kind.finals || slices.Contains(kind.modes, 2) {
			return
		}
		a := newAccount()
		ops = append(ops, impl.HeapOp{Kind: impl.HeapFull})
		for at, told := range impl.HeapRun(ops).Answers {
			if told.Code != 0 {
				continue
			}
			a.follow(ops[at], told)
			for _, n := range told.Freed {
				a.drop(n)
			}
			if ops[at].Kind != impl.HeapFull {
				continue
			}
			fulls++
			alive := slices.Sorted(maps.Keys(a.comeTo()))
			if all := slices.Sorted(maps.Keys(a.modes)); !slices.Equal(alive, all) || told.Live != len(alive) {
				t.Fatalf("%s: operation %d of %v: %v live, not %v", kind.name, at, heapText(ops), all, alive)
			}
		}
	})
	if fulls < 200 {
		t.Errorf("just %d whole collections", fulls)
	}
}

// The same operations give the same answers when run again, and nothing is kept from other ones.
func TestHeapIsDetermined(t *testing.T) {
	type run struct {
		ops []impl.HeapOp
		out impl.HeapOut
	}
	var runs []run
	eachRow(20, func(kind rowKind, ops []impl.HeapOp) { runs = append(runs, run{ops, impl.HeapRun(ops)}) })
	for i := len(runs) - 1; i >= 0; i-- {
		if again := impl.HeapRun(runs[i].ops); !reflect.DeepEqual(again, runs[i].out) {
			t.Fatalf("run again, %v gives %v, not %v", heapText(runs[i].ops), again, runs[i].out)
		}
	}
}

func TestHeapLeavesItsArgument(t *testing.T) {
	eachRow(20, func(kind rowKind, ops []impl.HeapOp) {
		room := append(slices.Clone(ops), many(impl.HeapOp{Kind: -7, A: -7, B: -7, C: -7}, 20)...)
		before := slices.Clone(room)
		impl.HeapRun(room[:len(ops)])
		if !slices.Equal(room, before) {
			t.Fatalf("%v was changed", heapText(ops))
		}
	})
}

// Each list of an answer can be written over, spare room too, and no other list shows it.
func TestHeapSharesNothing(t *testing.T) {
	eachRow(20, func(kind rowKind, ops []impl.HeapOp) {
		out, want := impl.HeapRun(ops), impl.HeapRun(ops)
		for at := range out.Answers {
			freed := out.Answers[at].Freed
			for i := range freed[:cap(freed)] {
				freed[:cap(freed)][i] = -at
			}
			for behind := at + 1; behind < len(out.Answers); behind++ {
				if !slices.Equal(out.Answers[behind].Freed, want.Answers[behind].Freed) {
					t.Fatalf("%v: answers %d and %d share memory", heapText(ops), at, behind)
				}
			}
		}
		for i := range out.Answers[:cap(out.Answers)] {
			out.Answers[:cap(out.Answers)][i] = impl.HeapAns{Code: -1}
		}
		if again := impl.HeapRun(ops); !reflect.DeepEqual(again, want) {
			t.Fatalf("%v: what was answered is kept", heapText(ops))
		}
	})
}
