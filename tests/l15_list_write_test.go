package tests

import (
	"fmt"
	"math"
	"slices"
	"strings"
	"testing"

	"loop.example/g00002/impl"
)

// Chapter 16, the side of writing: listings byte by byte, and what can't be listed.

// checkList holds the listing of a chunk against a text, every byte.
func checkList(t *testing.T, chunk impl.Chunk, want string) {
	t.Helper()
	if got, code := impl.List(chunk); code != 0 || got != want {
		t.Errorf("List tells %d and\n%s\nnot\n%s", code, got, want)
	}
	checkListedByModel(t, want, chunk)
}

// checkNotListed looks that a chunk has a code and nothing else.
func checkNotListed(t *testing.T, what string, chunk impl.Chunk, want int) {
	t.Helper()
	if got, code := impl.List(chunk); code != want || got != "" {
		t.Errorf("%s: List tells %d and %s, want %d", what, code, short(got), want)
	}
	checkListedByModel(t, what, chunk)
}

// coding is a chunk of one function without anything but instructions, each of the line of its place.
func coding(code ...impl.Instr) impl.Chunk {
	p := impl.Proto{Code: code}
	for at := range code {
		p.Lines = append(p.Lines, at)
	}
	return impl.Chunk{Protos: []impl.Proto{p}}
}

// plainHead is the first line of such a function.
const plainHead = "function 0 params 0 dots 0 regs 0\n"

// holding is a chunk of one function that has just constants.
func holding(consts ...impl.Const) impl.Chunk {
	return impl.Chunk{Protos: []impl.Proto{{Consts: consts}}}
}

func TestListOfTheExample(t *testing.T) {
	chunk := compiled(t, "local t = {}\nfor i = 1, 3 do\n  t[i] = function() return i end\nend\n")
	checkList(t, chunk, `function 3 params 0 dots 0 regs 1
  up local 4
    3 tick 0 0 0
    3 getup 0 0 0
    3 return 0 2 0
    3 return 0 1 0
function 1 params 0 dots 1 regs 8
    1 tick 0 0 0
    1 table 0 0 0
    2 tick 0 0 0
    2 int 1 1 0
    2 int 2 3 0
    2 int 3 1 0
    2 forprep 1 @1 0
@0: 2 tick 0 0 0
    3 tick 0 0 0
    3 move 5 0 0
    3 move 6 4 0
    3 closure 7 0 0
    3 setindex 5 6 7
    2 close 4 0 0
    2 forloop 1 @0 0
@1: 1 return 0 1 0
`)
}

// What the chapter says of the example: how it begins, and what the three closures give.
func TestListedExampleRuns(t *testing.T) {
	const example = "local t = {}\nfor i = 1, 3 do\n  t[i] = function() return i end\nend\n"
	text, _ := impl.List(compiled(t, example+"return t[1](), t[2](), t[3]()"))
	chunk, fault := impl.Assemble(text)
	events, out := impl.Trace(chunk, plenty())
	if fault.Code != 0 || toldShort(out) != "= 1 2 3" {
		t.Fatalf("%+v %s", fault, outcomeText(out))
	}
	if events[0] != (impl.Event{Kind: impl.EventCall, Thread: 1, Depth: 1, Line: 1}) || events[1] != (impl.Event{Kind: impl.EventStep, Thread: 1, Depth: 1, Line: 1}) {
		t.Errorf("%+v", events[:2])
	}
}

func TestListOfNothing(t *testing.T) {
	checkList(t, impl.Chunk{}, "")
	checkList(t, impl.Chunk{Protos: []impl.Proto{}}, "")
	checkList(t, impl.Chunk{Protos: make([]impl.Proto, 1)}, plainHead)
	checkList(t, impl.Chunk{Protos: make([]impl.Proto, 3)}, plainHead+plainHead+plainHead)
	checkList(t, impl.Chunk{Protos: []impl.Proto{{Ups: []impl.Up{}, Consts: []impl.Const{}, Code: []impl.Instr{}, Lines: []int{}}}}, plainHead)
}

func TestListOfHeads(t *testing.T) {
	checkList(t, impl.Chunk{Protos: []impl.Proto{{Line: 1, Params: 2, Dots: true, Regs: 3}}}, "function 1 params 2 dots 1 regs 3\n")
	checkList(t, impl.Chunk{Protos: []impl.Proto{{Line: math.MaxInt32, Params: 255, Regs: 255}}}, "function 2147483647 params 255 dots 0 regs 255\n")
	checkList(t, impl.Chunk{Protos: []impl.Proto{{Line: 1}, {Params: 1}, {Regs: 1}, {Dots: true}}},
		"function 1 params 0 dots 0 regs 0\nfunction 0 params 1 dots 0 regs 0\nfunction 0 params 0 dots 0 regs 1\nfunction 0 params 0 dots 1 regs 0\n")
}

func TestListOfUpvalues(t *testing.T) {
	ups := []impl.Up{{FromLocal: true}, {}, {FromLocal: true, Index: 255}, {Index: 255}, {Index: 7}, {Index: 7}}
	checkList(t, impl.Chunk{Protos: []impl.Proto{{Ups: ups}}}, plainHead+"  up local 0\n  up outer 0\n  up local 255\n  up outer 255\n  up outer 7\n  up outer 7\n")
}

// All parts, in their order, in two functions.
func TestListOfAllParts(t *testing.T) {
	p := fullProto()
	p.Code = []impl.Instr{{Op: impl.InsGetGlobal, A: 10, B: 11, C: 12}, {Op: impl.InsJump, A: 14, B: 0, C: 16}}
	const text = "function 3 params 1 dots 1 regs 2\n  up local 4\n  up outer 5\n  const int 6\n  const float 3.5e-323\n  const string \"eight\"\n@0: 17 getglobal 10 11 12\n    18 jump 14 @0 16\n"
	checkList(t, impl.Chunk{Protos: []impl.Proto{p, p}}, text+text)
}

// Each instruction by its name.
func TestListNames(t *testing.T) {
	const first = "tick move nil bool int const getup setup getglobal setglobal getindex setindex getfield setfield self table setitem setlist concat eq lt le not len jump jumpif jumpnot call tail return dots closure close tbc forprep forloop each eachloop"
	const onwards = "add sub mul div mod idiv pow and or xor shl shr neg bnot"
	ops := map[int]string{}
	for n, name := range strings.Fields(first) {
		ops[1+n] = name
	}
	for n, name := range strings.Fields(onwards) {
		ops[65+n] = name
	}
	for op := range 256 {
		name, is := ops[op]
		for _, b := range []int{-1, 1, 2} {
			chunk := coding(impl.Instr{Op: op, A: 3, B: b, C: -4})
			if !is {
				checkNotListed(t, fmt.Sprint("instruction ", op), chunk, impl.ChunkOp)
				continue
			}
			checkList(t, chunk, plainHead+fmt.Sprintf("    0 %s 3 %d -4\n", name, b))
		}
	}
	if len(ops) != 52 || ops[impl.InsEachLoop] != "eachloop" || ops[impl.InsArith+impl.NumAdd] != "add" || ops[impl.InsArith+impl.NumNot] != "bnot" || ops[impl.InsReturn] != "return" {
		t.Errorf("%v", ops)
	}
}

func TestListOperandsAtTheirEnds(t *testing.T) {
	chunk := coding(impl.Instr{Op: 1, A: 255, B: math.MaxInt32, C: math.MinInt32}, impl.Instr{Op: 78, B: math.MinInt32, C: math.MaxInt32}, impl.Instr{Op: 65, B: -1, C: -1})
	chunk.Protos[0].Lines = []int{math.MaxInt32, 0, 100000}
	checkList(t, chunk, plainHead+"    2147483647 tick 255 2147483647 -2147483648\n    0 bnot 0 -2147483648 2147483647\n    100000 add 0 -1 -1\n")
}

// An Op without a name, in each function and at each place; and what WriteChunk refuses comes first, wherever it is.
func TestListRefuses(t *testing.T) {
	whole := func() impl.Chunk {
		c := impl.Chunk{Protos: []impl.Proto{fullProto(), fullProto(), fullProto()}}
		return c
	}
	for proto := range 3 {
		for at := range 2 {
			for _, op := range []int{0, 39, 60, 64, 79, 255} {
				c := whole()
				c.Protos[proto].Code[at].Op = op
				checkNotListed(t, fmt.Sprint(op), c, impl.ChunkOp)
				for wrong := range 3 {
					c := copyChunk(c)
					c.Protos[wrong].Params = 256
					checkNotListed(t, fmt.Sprint(op, " and 256"), c, impl.ChunkBytes)
					c = copyChunk(whole())
					c.Protos[proto].Code[at].Op = op
					c.Protos[wrong].Lines = c.Protos[wrong].Lines[:1]
					checkNotListed(t, fmt.Sprint(op, " and a line that lacks"), c, impl.ChunkBytes)
				}
			}
		}
	}
	for _, op := range []int{-1, 256, 257, math.MaxInt, math.MinInt, 1<<32 + 1} {
		checkNotListed(t, fmt.Sprint(op), coding(impl.Instr{Op: op}), impl.ChunkBytes)
	}
	checkNotListed(t, "another kind", holding(impl.Const{Kind: impl.NodeNil}), impl.ChunkBytes)
	checkNotListed(t, "another field", holding(impl.Const{Kind: impl.NodeInt, Bits: 1}), impl.ChunkBytes)
	checkNotListed(t, "another nan", holding(impl.Const{Kind: impl.NodeFloat, Bits: 0xFFF8000000000000}), impl.ChunkBytes)
	checkNotListed(t, "65536 functions", impl.Chunk{Protos: make([]impl.Proto, 65536)}, impl.ChunkBytes)
	// Both come ahead of the size.
	long := impl.Const{Kind: impl.NodeString, Text: times("\x00", impl.MaxString)}
	c := impl.Chunk{Protos: []impl.Proto{{Consts: many(long, 9)}, coding(impl.Instr{Op: 0}).Protos[0]}}
	checkNotListed(t, "no name", c, impl.ChunkOp)
	c.Protos[1].Line = -1
	checkNotListed(t, "no line", c, impl.ChunkBytes)
	c.Protos = c.Protos[:1]
	checkNotListed(t, "too much", c, impl.ListLarge)
}

// Each number of a function at and beyond the ends of its place: what WriteChunk refuses, and nothing else, is refused.
func TestListNumbersAtTheirEnds(t *testing.T) {
	spots := []int{0, 1, 127, 128, 254, 255, 256, 257, 65535, 65536, math.MaxInt32, math.MaxInt32 + 1, math.MaxUint32, math.MaxUint32 + 1, math.MaxInt}
	for _, n := range slices.Clone(spots) {
		spots = append(spots, -n, -n-1)
	}
	for _, number := range placedNumbers() {
		for _, n := range spots {
			for _, c := range inEachPlace(func(p *impl.Proto) { number.set(p, n) }) {
				_, code := checkListedByModel(t, fmt.Sprintf("%d as %s", n, number.name), c)
				_, refused := impl.WriteChunk(c)
				if (code == impl.ChunkBytes) != (refused != 0) {
					t.Errorf("%d as %s: List tells %d, WriteChunk %d", n, number.name, code, refused)
				}
			}
		}
	}
}

func TestListOfIntegers(t *testing.T) {
	for n, want := range map[int]string{0: "0", 1: "1", -1: "-1", 70000: "70000", math.MaxInt: "9223372036854775807", math.MinInt: "-9223372036854775808"} {
		checkList(t, holding(impl.Const{Kind: impl.NodeInt, Int: n}), plainHead+"  const int "+want+"\n")
	}
}

func TestListOfFloats(t *testing.T) {
	for word, want := range map[uint64]string{
		0x7FF8000000000000: "nan", 0x7FF0000000000000: "inf", 0xFFF0000000000000: "-inf", 0: "0.0", 1 << 63: "-0.0", 1: "5e-324", 1<<63 | 1: "-5e-324",
		0x7FEFFFFFFFFFFFFF: "1.7976931348623157e+308", 0xFFEFFFFFFFFFFFFF: "-1.7976931348623157e+308", 0x0010000000000000: "2.2250738585072014e-308",
		0x3FF0000000000000: "1.0", 0xBFF8000000000000: "-1.5", 0x43E0000000000000: "9.223372036854776e+18", 0x3FB999999999999A: "0.1", 0x4341C37937E08000: "10000000000000000.0",
		0x4376345785D8A000: "1e+17", 0x3EE4F8B588E368F1: "0.00001",
	} {
		checkList(t, holding(impl.Const{Kind: impl.NodeFloat, Bits: word}), plainHead+"  const float "+want+"\n")
	}
	// Floats of all sorts come back, every bit.
	var consts []impl.Const
	for _, w := range words(4000) {
		if f := math.Float64frombits(w); f == f {
			consts = append(consts, impl.Const{Kind: impl.NodeFloat, Bits: w})
		}
	}
	for bit := range 64 {
		consts = append(consts, impl.Const{Kind: impl.NodeFloat, Bits: 1 << bit}, impl.Const{Kind: impl.NodeFloat, Bits: 0x3FF0000000000000 ^ 1<<bit})
	}
	consts = slices.DeleteFunc(consts, func(k impl.Const) bool { return k.Bits&0x7FFFFFFFFFFFFFFF > 0x7FF0000000000000 })
	checkListedByModel(t, "floats", holding(consts...))
}

func TestListOfStrings(t *testing.T) {
	for text, want := range map[string]string{
		"": `""`, "a": `"a"`, "a b": `"a b"`, " ": `" "`, "\"": `"\""`, "\\": `"\\"`, "'": `"'"`, "\n": `"\010"`, "\r\n": `"\013\010"`, "a\nb": `"a\010b"`, ";": `";"`, "@1:": `"@1:"`,
		"; x": `"; x"`, "@1": `"@1"`, "\x00": `"\000"`, "\x001": `"\0001"`, "\x7f": `"\127"`, "\x80": `"\128"`, "\xff": `"\255"`, "~": `"~"`, "\x1f": `"\031"`, "\t": `"\009"`,
		"é": `"\195\169"`, "function 1": `"function 1"`, `\n`: `"\\n"`, `\"`: `"\\\""`, "12": `"12"`, "nan": `"nan"`, "\"\"": `"\"\""`, "\n\n\n": `"\010\010\010"`,
	} {
		checkList(t, holding(impl.Const{Kind: impl.NodeString, Text: text}), plainHead+"  const string "+want+"\n")
	}
	var consts []impl.Const
	all := ""
	for b := range 256 {
		all += string([]byte{byte(b)})
		for _, text := range []string{string([]byte{byte(b)}), string([]byte{byte(b), '0'}), string([]byte{'\\', byte(b)}), string([]byte{byte(b), '"', byte(b)})} {
			consts = append(consts, impl.Const{Kind: impl.NodeString, Text: text})
		}
	}
	checkListedByModel(t, "each byte", holding(append(consts, impl.Const{Kind: impl.NodeString, Text: all}, impl.Const{Kind: impl.NodeString, Text: all + all})...))
	// A listing in a string in a listing.
	inner, _ := impl.List(compiled(t, "for i = 1, 3 do print('a;\"', i) end"))
	checkListedByModel(t, "a listing", holding(impl.Const{Kind: impl.NodeString, Text: inner}))
}

func TestListLabels(t *testing.T) {
	tick := impl.Instr{Op: impl.InsTick}
	for _, op := range jumpOps() {
		name := listedNames[op]
		jump := func(b int) impl.Instr { return impl.Instr{Op: op, A: 2, B: b, C: 3} }
		// To itself, ahead, behind, to the first and the last.
		checkList(t, coding(jump(0)), plainHead+"@0: 0 "+name+" 2 @0 3\n")
		checkList(t, coding(tick, jump(0)), plainHead+"@0: 0 tick 0 0 0\n    1 "+name+" 2 @0 3\n")
		checkList(t, coding(jump(1), tick), plainHead+"    0 "+name+" 2 @0 3\n@0: 1 tick 0 0 0\n")
		checkList(t, coding(tick, jump(2), tick), plainHead+"    0 tick 0 0 0\n    1 "+name+" 2 @0 3\n@0: 2 tick 0 0 0\n")
		// What is no place of an instruction.
		for _, b := range []int{-1, 2, 3, -2, math.MinInt32, math.MaxInt32, 99999, 100000, 65536} {
			checkList(t, coding(tick, jump(b)), plainHead+fmt.Sprintf("    0 tick 0 0 0\n    1 %s 2 %d 3\n", name, b))
		}
		// One label for several, and numbers by the order of the places, not of the jumps.
		checkList(t, coding(jump(4), jump(4), jump(2), tick, tick, jump(2), jump(0)), plainHead+
			strings.ReplaceAll("@0: 0 J 2 @2 3\n    1 J 2 @2 3\n@1: 2 J 2 @1 3\n    3 tick 0 0 0\n@2: 4 tick 0 0 0\n    5 J 2 @1 3\n    6 J 2 @0 3\n", "J", name))
		// A and C that are places.
		checkList(t, coding(impl.Instr{Op: op, A: 0, B: 7, C: 0}), plainHead+"    0 "+name+" 0 7 0\n")
	}
	// Those that can't jump have a number, be it a place or not.
	for _, op := range knownOps() {
		if modelJumps(op) {
			continue
		}
		name := listedNames[op]
		checkList(t, coding(impl.Instr{Op: op, A: 1, B: 0, C: 1}, impl.Instr{Op: op, B: 1}), plainHead+"    0 "+name+" 1 0 1\n    1 "+name+" 0 1 0\n")
		checkList(t, coding(impl.Instr{Op: op, B: 1}, impl.Instr{Op: impl.InsJump, B: 0}), plainHead+"@0: 0 "+name+" 0 1 0\n    1 jump 0 @0 0\n")
	}
}

// Each function has its own labels.
func TestListLabelsOfFunctions(t *testing.T) {
	loop := coding(impl.Instr{Op: impl.InsJump, B: 1}, impl.Instr{Op: impl.InsJump, B: 0}).Protos[0]
	none := coding(impl.Instr{Op: impl.InsJump, B: 1}).Protos[0]
	const one, other = plainHead + "@0: 0 jump 0 @1 0\n@1: 1 jump 0 @0 0\n", plainHead + "    0 jump 0 1 0\n"
	checkList(t, impl.Chunk{Protos: []impl.Proto{loop, none, loop, {}, loop}}, one+other+one+plainHead+one)
}

// Labels of all lengths that there are: a function that fits into a listing has fewer than a hundred thousand.
func TestListManyLabels(t *testing.T) {
	var code []impl.Instr
	for at := range 10800 {
		code = append(code, impl.Instr{Op: impl.InsJump, B: at})
	}
	chunk := coding(code...)
	for at := range code {
		chunk.Protos[0].Lines[at] = 1
	}
	text, code0 := checkListedByModel(t, "labels", chunk)
	if code0 != 0 || !strings.Contains(text, "\n@9: 1 jump 0 @9 0\n@10: 1 jump 0 @10 0\n") || !strings.HasSuffix(text, "\n@10798: 1 jump 0 @10798 0\n@10799: 1 jump 0 @10799 0\n") {
		t.Errorf("%d %s", code0, short(text))
	}
}

// listingOf is a chunk whose listing has just so many bytes.
func listingOf(t *testing.T, size int) impl.Chunk {
	t.Helper()
	var c impl.Chunk
	head := len(plainHead)
	for left := size; left > 0; {
		// A constant of n plain bytes has a line of n bytes and these more.
		const line = len("  const string \"\"\n")
		take := min(left, head+line+impl.MaxString)
		if rest := left - take; rest > 0 && rest < head+line {
			take -= head + line
		}
		if take < head+line {
			t.Fatalf("there is no listing of %d bytes", size)
		}
		c.Protos = append(c.Protos, impl.Proto{Consts: []impl.Const{{Kind: impl.NodeString, Text: times("x", take-head-line)}}})
		left -= take
	}
	return c
}

func TestListAtItsSize(t *testing.T) {
	t.Parallel()
	if impl.MaxListing != 262144 || impl.MaxLabel != 99999 || impl.ListLarge != 31 {
		t.Errorf("%d %d %d", impl.MaxListing, impl.MaxLabel, impl.ListLarge)
	}
	for _, size := range []int{100, 65536, 262142, 262143, 262144} {
		text, code := checkListedByModel(t, "size", listingOf(t, size))
		if code != 0 || len(text) != size {
			t.Errorf("%d: %d, %d bytes", size, code, len(text))
		}
	}
	for _, size := range []int{262145, 262146, 300000, 400000, 10000000} {
		checkNotListed(t, fmt.Sprint(size, " bytes"), listingOf(t, size), impl.ListLarge)
	}
	// By any kind of line that comes last.
	full := listingOf(t, 262144-len(plainHead)-len("    0 jump 0 @0 0\n"))
	checkListedByModel(t, "a jump", impl.Chunk{Protos: append(slices.Clone(full.Protos), coding(impl.Instr{Op: impl.InsJump, B: 0}).Protos[0])})
	if text, code := impl.List(impl.Chunk{Protos: append(slices.Clone(full.Protos), coding(impl.Instr{Op: impl.InsJump, B: 0}).Protos[0])}); code != 0 || len(text) != 262144 {
		t.Errorf("%d, %d bytes", code, len(text))
	}
	for _, p := range []impl.Proto{coding(impl.Instr{Op: impl.InsJump, B: 10}).Protos[0], coding(impl.Instr{Op: impl.InsJumpIf}).Protos[0], {Line: 1, Ups: many(impl.Up{}, 2)}, {Consts: []impl.Const{{Kind: impl.NodeInt, Int: -123456}}}} {
		chunk := impl.Chunk{Protos: append(slices.Clone(full.Protos), p)}
		_, code := checkListedByModel(t, "one more", chunk)
		if size := len(listedProto(p)); (code == impl.ListLarge) != (size > len(plainHead)+len("    0 jump 0 @0 0\n")) {
			t.Errorf("%d: %d", size, code)
		}
	}
	// As many functions as WriteChunk takes, and functions as long as it takes.
	checkNotListed(t, "65535 functions", impl.Chunk{Protos: make([]impl.Proto, 65535)}, impl.ListLarge)
	wide := impl.Proto{Ups: many(impl.Up{}, 255), Consts: many(impl.Const{Kind: impl.NodeInt}, 65535), Code: many(impl.Instr{Op: impl.InsJump, B: 65534}, 65535), Lines: many(1, 65535)}
	checkNotListed(t, "the longest lists", impl.Chunk{Protos: many(wide, 100)}, impl.ListLarge)
	wide.Code = slices.Clone(wide.Code)
	wide.Code[65534].Op = 0
	checkNotListed(t, "the longest lists, and a wrong instruction", impl.Chunk{Protos: append(many(impl.Proto{}, 50), wide)}, impl.ChunkOp)
}
