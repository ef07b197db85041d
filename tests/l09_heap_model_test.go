package tests

import (
	"fmt"
	"maps"
	"reflect"
	"slices"
	"strconv"
	"strings"
	"testing"

	"loop.example/g00002/impl"
)

// The model says chapter 10 once more: tables in a map by number, rows that are looked for one by one, colours as words,
// sums made anew each time they are asked for.

// modelKey is an integer, the number of a table, or nothing.
type modelKey struct {
	kind string
	n    int
}

type modelRow struct {
	key   modelKey
	value int // the number of a table, or 0
}

type modelTable struct {
	mode   int
	colour string
	rows   []modelRow
}

type modelHeap struct {
	tables                              map[int]*modelTable
	roots                               map[int]bool
	now, other                          string // the two whites
	made, state, credit, limit, sweepAt int
	greys, agains, weaks, weakKeyed     []int
	finals, waits                       []int
	freed                               []int
	popped                              int
}

func modelRun(ops []impl.HeapOp) impl.HeapOut {
	if len(ops) > 5000 {
		return impl.HeapOut{Code: impl.HeapLarge}
	}
	m := &modelHeap{tables: map[int]*modelTable{}, roots: map[int]bool{}, now: "white", other: "pale", limit: 4096}
	var out impl.HeapOut
	for _, op := range ops {
		out.Answers = append(out.Answers, m.answer(op))
	}
	return out
}

func (m *modelHeap) answer(op impl.HeapOp) impl.HeapAns {
	near := m.near(op)
	m.popped, m.freed = 0, nil
	id, code := m.operate(op, near)
	if code != 0 {
		return impl.HeapAns{Code: code}
	}
	return impl.HeapAns{
		Id: id, Live: len(m.tables), Bytes: m.bytes(), State: m.state, Pending: len(m.waits), Freed: m.freed,
	}
}

// near are the tables at hand, if the operation asks for any.
func (m *modelHeap) near(op impl.HeapOp) map[int]bool {
	if op.Kind < impl.HeapSetInt || op.Kind > impl.HeapFinal {
		return nil
	}
	near := map[int]bool{}
	var reach func(n int)
	reach = func(n int) {
		if near[n] {
			return
		}
		near[n] = true
		for _, row := range m.tables[n].rows {
			if row.value == 0 {
				continue
			}
			if row.key.kind == "table" {
				reach(row.key.n)
			}
			reach(row.value)
		}
	}
	for n := range m.roots {
		reach(n)
	}
	if m.popped != 0 {
		near[m.popped] = true
	}
	return near
}

func (m *modelHeap) bytes() int {
	sum := 0
	for _, t := range m.tables {
		sum += 40 + 40*len(t.rows)
	}
	return sum
}

func (m *modelHeap) operate(op impl.HeapOp, near map[int]bool) (id, code int) {
	switch op.Kind {
	case impl.HeapNew:
		if op.A < 0 || op.A > 3 {
			return 0, impl.HeapRange
		}
		m.made++
		m.tables[m.made] = &modelTable{mode: op.A, colour: m.now}
		m.roots[m.made] = true
		m.credit += 40
		id = m.made
		m.pace()
	case impl.HeapSetInt, impl.HeapSetObj:
		at := modelKey{"integer", op.B}
		if op.Kind == impl.HeapSetObj {
			at.kind = "table"
		}
		if !near[op.A] || at.kind == "table" && !near[op.B] || op.C != 0 && !near[op.C] {
			return 0, impl.HeapGone
		}
		m.set(op.A, at, op.C)
	case impl.HeapRoot:
		if !near[op.A] {
			return 0, impl.HeapGone
		}
		if op.B != 0 && op.B != 1 {
			return 0, impl.HeapRange
		}
		delete(m.roots, op.A)
		if op.B == 1 {
			m.roots[op.A] = true
		}
	case impl.HeapFinal:
		if !near[op.A] {
			return 0, impl.HeapGone
		}
		if slices.Contains(m.finals, op.A) {
			return 0, impl.HeapNone
		}
		m.finals = append(m.finals, op.A)
	case impl.HeapStep:
		if op.A < 1 || op.A > 1000000 {
			return 0, impl.HeapRange
		}
		m.step(op.A)
	case impl.HeapFull:
		for m.state != impl.HeapPause {
			m.step(1)
		}
		m.step(1)
		for m.state != impl.HeapPause {
			m.step(1)
		}
	case impl.HeapPop:
		if len(m.waits) == 0 {
			return 0, impl.HeapNone
		}
		id = m.waits[len(m.waits)-1]
		m.waits = m.waits[:len(m.waits)-1]
		m.popped = id
	case impl.HeapStat:
	default:
		return 0, impl.HeapKind
	}
	return id, 0
}

func (m *modelHeap) set(n int, key modelKey, to int) {
	t := m.tables[n]
	at := slices.IndexFunc(t.rows, func(row modelRow) bool { return row.key == key })
	if at < 0 && to == 0 {
		return
	}
	if at < 0 {
		bare := func(row modelRow) bool { return row.value == 0 }
		left := slices.DeleteFunc(slices.Clone(t.rows), bare)
		if len(t.rows) >= 16 && len(left)*2 < len(t.rows) {
			t.rows = left
		}
		at = len(t.rows)
		t.rows = append(t.rows, modelRow{key: key})
		m.credit += 40
	}
	t.rows[at].value = to
	if m.state == impl.HeapMark && t.colour == "black" {
		t.colour = "grey"
		m.agains = append(m.agains, n)
	}
}

func (m *modelHeap) pace() {
	if m.state == impl.HeapPause {
		if m.bytes() >= m.limit {
			m.credit = 0
			m.step(64)
		}
		return
	}
	for m.credit >= 256 && m.state != impl.HeapPause {
		m.credit -= 256
		m.step(64)
	}
}

func (m *modelHeap) step(units int) {
	if m.state == impl.HeapPause {
		m.state = impl.HeapMark
		m.greys, m.agains, m.weaks, m.weakKeyed = nil, nil, nil, nil
		m.markFirst()
		units--
	}
	for units > 0 && m.state != impl.HeapPause {
		switch {
		case m.state == impl.HeapSweep:
			m.sweep()
			units--
		case len(m.greys) == 0:
			m.endMarking()
			units--
		default:
			units -= m.scanLast()
		}
	}
}

// white tells whether a number is that of a white table; 0 is none's.
func (m *modelHeap) white(n int) bool {
	return n != 0 && (m.tables[n].colour == m.now || m.tables[n].colour == m.other)
}

func (m *modelHeap) whiteKey(key modelKey) bool { return key.kind == "table" && m.white(key.n) }

func (m *modelHeap) mark(n int) {
	if m.white(n) {
		m.tables[n].colour = "grey"
		m.greys = append(m.greys, n)
	}
}

func (m *modelHeap) markKey(key modelKey) {
	if key.kind == "table" {
		m.mark(key.n)
	}
}

func (m *modelHeap) markFirst() {
	for _, n := range slices.Sorted(maps.Keys(m.roots)) {
		m.mark(n)
	}
	m.markAll(m.waits)
}

func (m *modelHeap) markAll(list []int) {
	for _, n := range list {
		m.mark(n)
	}
}

func (m *modelHeap) scanLast() (work int) {
	n := m.greys[len(m.greys)-1]
	m.greys = m.greys[:len(m.greys)-1]
	t := m.tables[n]
	t.colour = "black"
	if t.mode == 1 {
		m.weakKeyed = append(m.weakKeyed, n)
		m.spread(n)
	}
	for _, row := range t.rows {
		if row.value != 0 && (t.mode == 0 || t.mode == 2) {
			m.markKey(row.key)
		}
		if t.mode == 0 {
			m.mark(row.value)
		}
	}
	if t.mode >= 2 {
		m.weaks = append(m.weaks, n)
	}
	return 1 + len(t.rows)
}

func (m *modelHeap) spread(n int) (marked bool) {
	for _, row := range m.tables[n].rows {
		if !m.whiteKey(row.key) && m.white(row.value) {
			m.mark(row.value)
			marked = true
		}
	}
	return marked
}

func (m *modelHeap) scanAll() {
	for len(m.greys) > 0 {
		m.scanLast()
	}
}

func (m *modelHeap) settle() {
	m.scanAll()
	for marked := true; marked; {
		marked = false
		for i := 0; i < len(m.weakKeyed); i++ {
			if m.spread(m.weakKeyed[i]) {
				marked = true
				m.scanAll()
			}
		}
	}
}

func (m *modelHeap) endMarking() {
	m.markFirst()
	m.scanAll()
	for _, n := range m.agains {
		m.tables[n].colour = "grey"
		m.greys = append(m.greys, n)
	}
	m.settle()
	m.change(m.weaks, m.loseValue)
	var left []int
	for _, n := range m.finals {
		if m.white(n) {
			m.waits = append(m.waits, n)
		} else {
			left = append(left, n)
		}
	}
	m.finals = left
	m.markAll(m.waits)
	m.settle()
	loseBoth := func(row *modelRow) {
		if m.whiteKey(row.key) {
			*row = modelRow{}
		}
	}
	m.change(m.weaks, loseBoth)
	m.change(m.weakKeyed, loseBoth)
	m.change(m.weaks, m.loseValue)
	for n := range m.tables {
		if !m.white(n) {
			m.change([]int{n}, m.loseBareKey)
		}
	}
	m.now, m.other = m.other, m.now
	m.state, m.sweepAt = impl.HeapSweep, 1
}

// change does something to each row of some tables.
func (m *modelHeap) change(list []int, row func(*modelRow)) {
	for _, n := range list {
		for i := range m.tables[n].rows {
			row(&m.tables[n].rows[i])
		}
	}
}

func (m *modelHeap) loseValue(row *modelRow) {
	if m.white(row.value) {
		row.value = 0
	}
}

func (m *modelHeap) loseBareKey(row *modelRow) {
	if row.value == 0 && m.whiteKey(row.key) {
		row.key = modelKey{}
	}
}

func (m *modelHeap) sweep() {
	for m.sweepAt <= m.made && m.tables[m.sweepAt] == nil {
		m.sweepAt++
	}
	if t := m.tables[m.sweepAt]; t != nil {
		if t.colour == m.other {
			delete(m.tables, m.sweepAt)
			m.freed = append(m.freed, m.sweepAt)
		} else {
			t.colour = m.now
		}
		m.sweepAt++
	}
	for n := range m.tables {
		if n >= m.sweepAt {
			return
		}
	}
	m.state, m.credit = impl.HeapPause, 0
	m.limit = max(4096, 2*m.bytes())
}

// Rows of operations are told as text, a line each, with the answer that is asked for behind an arrow:
//
//	new 2         -> #1 1/40 pause           the Id, how many live, their bytes, the state
//	full          -> 1/40 pause wait 1 frees 2 3
//	int 1 [1..9] 2 -> 2/440 pause            nine operations; the answer is the last one's
//	root 5 1      -> gone

var heapKinds = map[string]int{
	"new": impl.HeapNew, "int": impl.HeapSetInt, "obj": impl.HeapSetObj, "root": impl.HeapRoot, "final": impl.HeapFinal,
	"step": impl.HeapStep, "full": impl.HeapFull, "pop": impl.HeapPop, "stat": impl.HeapStat,
}

// heapOps are the operations of a text, and the answers that it tells, by the place of the operation.
func heapOps(t *testing.T, text string) ([]impl.HeapOp, map[int]string) {
	t.Helper()
	var ops []impl.HeapOp
	told := map[int]string{}
	for _, line := range strings.Split(text, "\n") {
		line, answer, has := strings.Cut(line, "->")
		fields := strings.Fields(line)
		if len(fields) == 0 {
			continue
		}
		ops = append(ops, heapRow(t, fields)...)
		if has {
			told[len(ops)-1] = strings.Join(strings.Fields(answer), " ")
		}
	}
	return ops, told
}

// heapRow are the operations of a line: one, or as many as a range in it has numbers.
func heapRow(t *testing.T, fields []string) []impl.HeapOp {
	t.Helper()
	first, last := heapRange(t, fields)
	var ops []impl.HeapOp
	for n := first; n <= last; n++ {
		args := [3]int{}
		for i, field := range fields[1:] {
			args[i] = heapNumber(t, field, n)
		}
		kind, known := heapKinds[fields[0]]
		if !known {
			kind = heapNumber(t, fields[0], n)
		}
		ops = append(ops, impl.HeapOp{Kind: kind, A: args[0], B: args[1], C: args[2]})
	}
	return ops
}

func heapRange(t *testing.T, fields []string) (first, last int) {
	t.Helper()
	for _, field := range fields {
		if strings.HasPrefix(field, "[") {
			from, to, _ := strings.Cut(strings.Trim(field, "[]"), "..")
			return heapNumber(t, from, 0), heapNumber(t, to, 0)
		}
	}
	return 0, 0
}

// heapNumber reads a number; a range stands for the one that it has come to, and +3 for 3 behind that.
func heapNumber(t *testing.T, field string, n int) int {
	t.Helper()
	if strings.HasPrefix(field, "[") {
		return n
	}
	number, err := strconv.Atoi(field)
	if err != nil {
		t.Fatalf("%q is no number", field)
	}
	if field[0] == '+' {
		return n + number
	}
	return number
}

var heapCodes = map[int]string{
	impl.HeapKind: "kind", impl.HeapRange: "range", impl.HeapGone: "gone", impl.HeapNone: "none", impl.HeapLarge: "large",
}

// answerText tells a whole answer.
func answerText(a impl.HeapAns) string {
	if a.Code != 0 {
		if reflect.DeepEqual(a, impl.HeapAns{Code: a.Code}) {
			return heapCodes[a.Code]
		}
		return fmt.Sprintf("%s, and more: %+v", heapCodes[a.Code], a)
	}
	text := fmt.Sprintf("%d/%d %s", a.Live, a.Bytes, []string{"pause", "mark", "sweep"}[a.State])
	if a.Id != 0 {
		text = fmt.Sprintf("#%d %s", a.Id, text)
	}
	if a.Pending != 0 {
		text += fmt.Sprintf(" wait %d", a.Pending)
	}
	if len(a.Freed) != 0 {
		text += " frees " + strings.Trim(fmt.Sprint(a.Freed), "[]")
	}
	return text
}

// checkHeap runs the operations of a text, and holds the answers against those told, and all of them against the model.
func checkHeap(t *testing.T, name, text string) {
	t.Helper()
	ops, told := heapOps(t, text)
	out := checkHeapOps(t, name, ops)
	for at := range ops {
		if want, has := told[at]; has && at < len(out.Answers) {
			if got := answerText(out.Answers[at]); got != want {
				t.Errorf("%s: operation %d, %v: %s, not %s", name, at, ops[at], got, want)
			}
		}
	}
}

// checkHeapOps holds all answers against the model, and asks for each number to be freed once.
func checkHeapOps(t *testing.T, name string, ops []impl.HeapOp) impl.HeapOut {
	t.Helper()
	out, want := impl.HeapRun(ops), modelRun(ops)
	if out.Code != want.Code || len(out.Answers) != len(want.Answers) {
		t.Fatalf("%s: code %d and %d answers, not code %d and %d", name, out.Code, len(out.Answers), want.Code, len(want.Answers))
	}
	freed := map[int]bool{}
	for at, a := range out.Answers {
		if got, want := answerText(a), answerText(want.Answers[at]); got != want {
			t.Fatalf("%s: operation %d of %v: %s, not %s", name, at, heapText(ops), got, want)
		}
		for _, n := range a.Freed {
			if freed[n] {
				t.Fatalf("%s: operation %d of %v: %d is freed once more", name, at, heapText(ops), n)
			}
			freed[n] = true
		}
	}
	return out
}

// heapText tells operations in short, the first of a long row alone.
func heapText(ops []impl.HeapOp) string {
	if len(ops) > 60 {
		return fmt.Sprint(ops[:60]) + ".."
	}
	return fmt.Sprint(ops)
}
