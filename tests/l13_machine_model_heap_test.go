package tests

import (
	"slices"

	"loop.example/g00002/impl"
)

// The collector of the model: chapter 10 for all kinds of objects, with colours as words in a map and sums that are made
// anew each time they are asked for. All of its methods may be asked of none, as the evaluator's model has none.
type runHeap struct {
	model                           *runModel // none before the prelude has been run
	objects                         []any     // by number; nil where one is freed
	colours                         map[any]string
	now, other                      string
	state, credit, limit, sweepAt   int
	greys, agains, weaks, weakKeyed []any
	finals, waits                   []any
	stopped                         bool
	inFinal                         int
	events                          []impl.Event
}

func newRunHeap() *runHeap {
	return &runHeap{colours: map[any]string{}, now: "white", other: "pale", limit: 4096}
}

// begin is behind the prelude.
func (h *runHeap) begin(m *runModel) { h.model, h.credit = m, 0 }

func (h *runHeap) enter(o any) {
	if h == nil {
		return
	}
	h.objects = append(h.objects, o)
	h.colours[o] = h.now
	h.credit += runSize(o)
}

func runSize(o any) int {
	switch o := o.(type) {
	case *runTable:
		return 40 + 40*len(o.keys)
	case *runFunction:
		return 40 + 8*len(o.cells)
	case *runThread:
		return 400
	}
	return 40
}

func (h *runHeap) live() int { return len(h.colours) }

func (h *runHeap) bytes() int {
	sum := 0
	for o := range h.colours {
		sum += runSize(o)
	}
	return sum
}

// touch is the barrier of a table in which something was set, with the bytes that have come.
func (h *runHeap) touch(t *runTable, bytes int) {
	if h == nil {
		return
	}
	h.credit += bytes
	if h.state == impl.HeapMark && h.colours[t] == "black" {
		h.colours[t] = "grey"
		h.agains = append(h.agains, t)
	}
}

func (h *runHeap) newMeta(t *runTable) {
	if h == nil {
		return
	}
	t.mode = 0
	if text, isText := runEntry(t, "__mode").(string); isText {
		if slices.Contains([]byte(text), 'k') {
			t.mode++
		}
		if slices.Contains([]byte(text), 'v') {
			t.mode += 2
		}
	}
	if runEntry(t, "__gc") != nil && !slices.Contains(h.finals, any(t)) {
		h.finals = append(h.finals, t)
	}
	h.touch(t, 0)
}

func (h *runHeap) setCell(cell *runCell, v any) {
	if cell.call != nil {
		cell.call.regs[cell.register] = v
		return
	}
	cell.value = v
	if h.state == impl.HeapMark && h.colours[cell] == "black" {
		h.mark(v)
	}
}

func (h *runHeap) finalizes() bool { return h != nil && h.inFinal > 0 }

// tell tells an event, not in the prelude.
func (h *runHeap) tell(th *runThread, kind, line int) {
	if h == nil || h.model == nil {
		return
	}
	depth := 0
	for _, c := range th.calls {
		if c.closure != nil {
			depth++
		}
	}
	h.events = append(h.events, impl.Event{Kind: kind, Thread: th.number, Depth: depth, Line: line})
}

func (h *runHeap) white(v any) bool {
	colour, has := "", false
	switch v.(type) {
	case *runTable, *runFunction, *runThread, *runCell:
		colour, has = h.colours[v]
	}
	return has && (colour == h.now || colour == h.other)
}

func (h *runHeap) mark(v any) {
	if h.white(v) {
		h.colours[v] = "grey"
		h.greys = append(h.greys, v)
	}
}

func (h *runHeap) markAll(list []any) {
	for _, v := range list {
		h.mark(v)
	}
}

func (h *runHeap) markFirst() {
	h.mark(h.model.globals)
	h.mark(h.model.texts)
	for _, th := range h.model.resumed {
		h.mark(th)
	}
	h.markAll(h.waits)
}

// held are the values that a thread holds.
func (th *runThread) held() []any {
	switch {
	case th.status == "dead":
		return nil
	case th.status == "suspended" && th.next == nil:
		return []any{th.job}
	}
	var values []any
	for _, c := range th.calls {
		if c.closure == nil {
			continue
		}
		values = append(values, c.closure)
		values = append(values, c.regs...)
		values = append(values, c.spread...)
		values = append(values, c.dots...)
		values = append(values, c.waiting...)
		if c.shutting {
			values = append(values, c.handed)
		}
		for _, cell := range c.cells {
			values = append(values, cell)
		}
	}
	return values
}

func (h *runHeap) scanLast() int {
	o := h.greys[len(h.greys)-1]
	h.greys = h.greys[:len(h.greys)-1]
	h.colours[o] = "black"
	switch o := o.(type) {
	case *runTable:
		h.scanTable(o)
		return 1 + len(o.keys)
	case *runFunction:
		for _, cell := range o.cells {
			h.mark(cell)
		}
		return 1 + len(o.cells)
	case *runThread:
		held := o.held()
		h.markAll(held)
		h.agains = append(h.agains, o)
		return 1 + len(held)
	case *runCell:
		if o.call != nil {
			h.mark(o.call.thread)
		} else {
			h.mark(o.value)
		}
	}
	return 2
}

func (h *runHeap) scanTable(t *runTable) {
	if t.meta != nil {
		h.mark(t.meta)
	}
	if t.mode == 1 {
		h.weakKeyed = append(h.weakKeyed, t)
		h.spread(t)
	}
	for i, v := range t.values {
		if v != nil && (t.mode == 0 || t.mode == 2) {
			h.mark(t.keys[i])
		}
		if t.mode == 0 {
			h.mark(v)
		}
	}
	if t.mode >= 2 {
		h.weaks = append(h.weaks, t)
	}
}

func (h *runHeap) spread(o any) (marked bool) {
	t := o.(*runTable)
	for i, v := range t.values {
		if !h.white(t.keys[i]) && h.white(v) {
			h.mark(v)
			marked = true
		}
	}
	return marked
}

func (h *runHeap) scanAll() {
	for len(h.greys) > 0 {
		h.scanLast()
	}
}

func (h *runHeap) settle() {
	h.scanAll()
	for marked := true; marked; {
		marked = false
		for i := 0; i < len(h.weakKeyed); i++ {
			if h.spread(h.weakKeyed[i]) {
				marked = true
				h.scanAll()
			}
		}
	}
}

func (h *runHeap) endMarking() {
	h.markFirst()
	h.scanAll()
	for _, o := range h.agains {
		h.colours[o] = "grey"
		h.greys = append(h.greys, o)
	}
	h.settle()
	h.loseValues()
	var left []any
	for _, o := range h.finals {
		if h.white(o) {
			h.waits = append(h.waits, o)
		} else {
			left = append(left, o)
		}
	}
	h.finals = left
	h.markAll(h.waits)
	h.settle()
	for _, o := range append(slices.Clone(h.weaks), h.weakKeyed...) {
		h.loseKeys(o.(*runTable), true)
	}
	h.loseValues()
	for o := range h.colours {
		if t, isTable := o.(*runTable); isTable && !h.white(t) {
			h.loseKeys(t, false)
		}
	}
	h.now, h.other = h.other, h.now
	h.state, h.sweepAt = impl.HeapSweep, 0
}

func (h *runHeap) loseValues() {
	for _, o := range h.weaks {
		t := o.(*runTable)
		for i, v := range t.values {
			if h.white(v) {
				t.values[i] = nil
			}
		}
	}
}

// loseKeys takes white keys out, with their values or only where there are none.
func (h *runHeap) loseKeys(t *runTable, values bool) {
	for i, k := range t.keys {
		if h.white(k) && (values || t.values[i] == nil) {
			delete(t.at, k)
			t.keys[i], t.values[i] = nil, nil
		}
	}
}

func (h *runHeap) sweep() {
	isLeft := func(o any) bool { return o != nil }
	if next := slices.IndexFunc(h.objects[h.sweepAt:], isLeft); next >= 0 {
		h.sweepAt += next
		o := h.objects[h.sweepAt]
		if h.colours[o] == h.other {
			h.objects[h.sweepAt] = nil
			delete(h.colours, o)
		} else {
			h.colours[o] = h.now
		}
		h.sweepAt++
	}
	if slices.ContainsFunc(h.objects[h.sweepAt:], isLeft) {
		return
	}
	h.state, h.credit = impl.HeapPause, 0
	h.limit = max(4096, 2*h.bytes())
}

func (h *runHeap) step(units int) {
	if h.state == impl.HeapPause {
		h.state = impl.HeapMark
		h.greys, h.agains, h.weaks, h.weakKeyed = nil, nil, nil, nil
		h.markFirst()
		units--
	}
	for units > 0 && h.state != impl.HeapPause {
		switch {
		case h.state == impl.HeapSweep:
			h.sweep()
			units--
		case len(h.greys) == 0:
			h.endMarking()
			units--
		default:
			units -= h.scanLast()
		}
	}
}

func (h *runHeap) full(th *runThread) {
	for h.state != impl.HeapPause {
		h.step(1)
	}
	h.step(1)
	for h.state != impl.HeapPause {
		h.step(1)
	}
	h.tell(th, impl.EventCycle, 0)
}

func (h *runHeap) pace(units int) {
	if h.state == impl.HeapPause {
		if h.bytes() >= h.limit {
			h.credit = 0
			h.step(units)
		}
		return
	}
	for h.credit >= 256 && h.state != impl.HeapPause {
		h.credit -= 256
		h.step(units)
	}
}

func (th *runThread) collectorsTurn() *wayOut {
	h := th.model.heap
	if h.model == nil {
		return nil
	}
	limits := th.model.limits
	if limits.Memory > 0 && h.bytes() > limits.Memory {
		h.full(th)
		if h.bytes() > limits.Memory {
			return th.fails("not enough memory")
		}
	}
	before := h.state
	if limits.Pace > 0 && !h.stopped {
		h.pace(64 * limits.Pace)
	}
	if before != impl.HeapPause && h.state == impl.HeapPause {
		h.tell(th, impl.EventCycle, 0)
	}
	if len(h.waits) == 0 || h.inFinal > 0 {
		return nil
	}
	o := h.waits[len(h.waits)-1]
	h.waits = h.waits[:len(h.waits)-1]
	finalizer := runEntry(o, "__gc")
	if finalizer == nil {
		return nil
	}
	h.tell(th, impl.EventFinal, 0)
	h.inFinal++
	th.calls = append(th.calls, &runCall{thread: th, final: true})
	_, out := th.call(finalizer, []any{o})
	th.calls = th.calls[:len(th.calls)-1]
	h.inFinal--
	if out != nil && out.kind == outByError {
		return nil
	}
	return out
}

func (th *runThread) collectNow(option, number any) ([]any, *wayOut) {
	h := th.model.heap
	if option == nil {
		option = "collect"
	}
	switch runShown(option) {
	case "collect":
		h.full(th)
	case "count":
		return []any{h.bytes()}, nil
	case "step":
		units := 0
		if number != nil {
			units = runInteger(number)
		}
		h.step(min(max(units, 1), 1000000))
		if h.state == impl.HeapPause {
			h.tell(th, impl.EventCycle, 0)
		}
		return []any{h.state == impl.HeapPause}, nil
	case "stop":
		h.stopped = true
	case "restart":
		h.stopped = false
	default:
		return th.collect(option)
	}
	return []any{0}, nil
}
