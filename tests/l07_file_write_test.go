package tests

import (
	"bytes"
	"fmt"
	"math"
	"slices"
	"strings"
	"testing"

	"loop.example/g00002/impl"
)

// P9, the side of laying down: files byte by byte, and what has no place in them.

// checkFile holds the file of a chunk against bytes told by hand.
func checkFile(t *testing.T, c impl.Chunk, text string) {
	t.Helper()
	want := laid(text)
	if got, code := impl.WriteChunk(c); code != 0 || !bytes.Equal(got, want) {
		t.Errorf("WriteChunk(%s) tells %d and\n% x, want\n% x", codeText(c), code, got, want)
	}
	checkThereAndBack(t, c)
}

func TestWriteChunkNothing(t *testing.T) {
	checkFile(t, impl.Chunk{}, "00 00")
	checkFile(t, impl.Chunk{Protos: []impl.Proto{}}, "00 00")
	checkFile(t, impl.Chunk{Protos: []impl.Proto{{}}}, "01 00  00 00 00 00 00 00 00 00 00 00 00 00")
	checkFile(t, impl.Chunk{Protos: []impl.Proto{{Ups: []impl.Up{}, Consts: []impl.Const{}, Code: []impl.Instr{}, Lines: []int{}}}}, "01 00  00 00 00 00 00 00 00 00 00 00 00 00")
	want := append([]byte("chunk-01\x00\x00"), 0xDF, 0x3F, 0x38, 0x8F)
	if got, _ := impl.WriteChunk(impl.Chunk{}); !bytes.Equal(got, want) {
		t.Errorf("the file of no function is % x, want % x", got, want)
	}
}

func TestWriteChunkHeads(t *testing.T) {
	checkFile(t, impl.Chunk{Protos: []impl.Proto{{Params: 2, Dots: true, Regs: 3, Line: 0x01020304}}}, `
		01 00        # one function
		02           # Params
		01           # Dots
		03           # Regs
		04 03 02 01  # Line
		00           # upvalues
		00 00        # constants
		00 00        # instructions`)
	checkFile(t, impl.Chunk{Protos: []impl.Proto{{Params: 255, Regs: 254, Line: math.MaxInt32}}}, `
		01 00  ff 00 fe ff ff ff 7f  00  00 00  00 00`)
	checkFile(t, impl.Chunk{Protos: []impl.Proto{{Line: 1}, {Line: 2, Dots: true}, {Line: 3, Params: 1}}}, `
		03 00
		00 00 00 01 00 00 00  00  00 00  00 00
		00 01 00 02 00 00 00  00  00 00  00 00
		01 00 00 03 00 00 00  00  00 00  00 00`)
}

func TestWriteChunkUpvalues(t *testing.T) {
	ups := []impl.Up{{FromLocal: true, Index: 0}, {Index: 0}, {FromLocal: true, Index: 255}, {Index: 7}}
	checkFile(t, impl.Chunk{Protos: []impl.Proto{{Ups: ups}}}, `
		01 00  00 00 00 00 00 00 00
		04  01 00  00 00  01 ff  00 07
		00 00  00 00`)
}

func TestWriteChunkConstants(t *testing.T) {
	for _, c := range []struct {
		constant impl.Const
		text     string
	}{
		{impl.Const{Kind: impl.NodeInt}, "04  00 00 00 00 00 00 00 00"},
		{impl.Const{Kind: impl.NodeInt, Int: 1}, "04  01 00 00 00 00 00 00 00"},
		{impl.Const{Kind: impl.NodeInt, Int: -1}, "04  ff ff ff ff ff ff ff ff"},
		{impl.Const{Kind: impl.NodeInt, Int: 0x0102030405060708}, "04  08 07 06 05 04 03 02 01"},
		{impl.Const{Kind: impl.NodeInt, Int: math.MinInt}, "04  00 00 00 00 00 00 00 80"},
		{impl.Const{Kind: impl.NodeInt, Int: math.MaxInt}, "04  ff ff ff ff ff ff ff 7f"},
		{impl.Const{Kind: impl.NodeFloat}, "05  00 00 00 00 00 00 00 00"},
		{impl.Const{Kind: impl.NodeFloat, Bits: 0x3FF8000000000000}, "05  00 00 00 00 00 00 f8 3f"},
		{impl.Const{Kind: impl.NodeFloat, Bits: 0x0102030405060708}, "05  08 07 06 05 04 03 02 01"},
		{impl.Const{Kind: impl.NodeFloat, Bits: 0x8000000000000000}, "05  00 00 00 00 00 00 00 80"},
		{impl.Const{Kind: impl.NodeFloat, Bits: 0x7FF8000000000000}, "05  00 00 00 00 00 00 f8 7f"},
		{impl.Const{Kind: impl.NodeFloat, Bits: 0x7FF0000000000000}, "05  00 00 00 00 00 00 f0 7f"},
		{impl.Const{Kind: impl.NodeFloat, Bits: 0xFFF0000000000000}, "05  00 00 00 00 00 00 f0 ff"},
		{impl.Const{Kind: impl.NodeFloat, Bits: 0x7FEFFFFFFFFFFFFF}, "05  ff ff ff ff ff ff ef 7f"},
		{impl.Const{Kind: impl.NodeFloat, Bits: 1}, "05  01 00 00 00 00 00 00 00"},
		{impl.Const{Kind: impl.NodeString}, "06  00 00 00 00"},
		{impl.Const{Kind: impl.NodeString, Text: "chunk-01"}, "06  08 00 00 00  63 68 75 6e 6b 2d 30 31"},
		{impl.Const{Kind: impl.NodeString, Text: "\x00\xff\n\xc3"}, "06  04 00 00 00  00 ff 0a c3"},
	} {
		checkFile(t, impl.Chunk{Protos: []impl.Proto{{Consts: []impl.Const{c.constant}}}}, "01 00  00 00 00 00 00 00 00  00  01 00 "+c.text+" 00 00")
	}
	checkFile(t, impl.Chunk{Protos: []impl.Proto{{Consts: []impl.Const{{Kind: impl.NodeString, Text: "ab"}, {Kind: impl.NodeInt, Int: -2}, {Kind: impl.NodeString}, {Kind: impl.NodeFloat, Bits: 2}}}}}, `
		01 00  00 00 00 00 00 00 00  00
		04 00
		06  02 00 00 00  61 62
		04  fe ff ff ff ff ff ff ff
		06  00 00 00 00
		05  02 00 00 00 00 00 00 00
		00 00`)
}

func TestWriteChunkInstructions(t *testing.T) {
	code := []impl.Instr{{Op: 1}, {Op: 255, A: 255, B: -1, C: -2}, {A: 7, B: math.MinInt32, C: math.MaxInt32}, {Op: 78, A: 1, B: 0x01020304, C: -0x01020304}}
	checkFile(t, impl.Chunk{Protos: []impl.Proto{{Code: code, Lines: []int{0, 1, math.MaxInt32, 0x0A0B0C0D}}}}, `
		01 00  00 00 00 00 00 00 00  00  00 00
		04 00
		01 00  00 00 00 00  00 00 00 00  00 00 00 00
		ff ff  ff ff ff ff  fe ff ff ff  01 00 00 00
		00 07  00 00 00 80  ff ff ff 7f  ff ff ff 7f
		4e 01  04 03 02 01  fc fc fd fe  0d 0c 0b 0a`)
}

func TestWriteChunkOfAText(t *testing.T) {
	c, _ := impl.Compile("local a = 70000\nfunction f(x) return a + x end")
	checkFile(t, c, `
		02 00
		01 00 03 02 00 00 00                         # function f
		01  01 00                                    # its upvalue: register 0
		00 00
		06 00
		01 00  00 00 00 00  00 00 00 00  02 00 00 00 # Tick
		07 01  00 00 00 00  00 00 00 00  02 00 00 00 # GetUp 1 0
		02 02  00 00 00 00  00 00 00 00  02 00 00 00 # Move 2 0
		41 01  01 00 00 00  02 00 00 00  02 00 00 00 # Add 1 1 2
		1e 01  02 00 00 00  00 00 00 00  02 00 00 00 # Return 1 2
		1e 00  01 00 00 00  00 00 00 00  02 00 00 00 # Return 0 1
		00 01 02 01 00 00 00                         # the text
		00
		02 00
		04  70 11 01 00 00 00 00 00
		06  01 00 00 00  66
		06 00
		01 00  00 00 00 00  00 00 00 00  01 00 00 00 # Tick
		06 00  00 00 00 00  00 00 00 00  01 00 00 00 # Const 0 0
		01 00  00 00 00 00  00 00 00 00  02 00 00 00 # Tick
		20 01  00 00 00 00  00 00 00 00  02 00 00 00 # Closure 1 0
		0a 01  01 00 00 00  00 00 00 00  02 00 00 00 # SetGlobal 1 1
		1e 00  01 00 00 00  00 00 00 00  01 00 00 00 # Return 0 1`)
}

// fullProto is a function with something of everything, its numbers being told apart.
func fullProto() impl.Proto {
	return impl.Proto{
		Params: 1, Regs: 2, Line: 3, Dots: true,
		Ups:    []impl.Up{{FromLocal: true, Index: 4}, {Index: 5}},
		Consts: []impl.Const{{Kind: impl.NodeInt, Int: 6}, {Kind: impl.NodeFloat, Bits: 7}, {Kind: impl.NodeString, Text: "eight"}},
		Code:   []impl.Instr{{Op: 9, A: 10, B: 11, C: 12}, {Op: 13, A: 14, B: 15, C: 16}},
		Lines:  []int{17, 18},
	}
}

// inEachPlace gives chunks of three functions of which one is changed.
func inEachPlace(change func(p *impl.Proto)) []impl.Chunk {
	var chunks []impl.Chunk
	for place := range 3 {
		c := impl.Chunk{Protos: []impl.Proto{fullProto(), fullProto(), fullProto()}}
		change(&c.Protos[place])
		chunks = append(chunks, c)
	}
	return chunks
}

func checkEachNotWritten(t *testing.T, what string, change func(p *impl.Proto)) {
	t.Helper()
	for place, c := range inEachPlace(change) {
		checkNotWritten(t, fmt.Sprintf("%s in function %d", what, place), c)
	}
}

func checkEachWritten(t *testing.T, change func(p *impl.Proto)) {
	t.Helper()
	for _, c := range inEachPlace(change) {
		checkThereAndBack(t, c)
	}
}

// placedNumber is a number of a function that has a place in a file, with the least and the greatest that fit.
type placedNumber struct {
	name            string
	least, greatest int
	set             func(p *impl.Proto, n int)
}

func placedNumbers() []placedNumber {
	return []placedNumber{
		{"Params", 0, 255, func(p *impl.Proto, n int) { p.Params = n }},
		{"Regs", 0, 255, func(p *impl.Proto, n int) { p.Regs = n }},
		{"Line", 0, math.MaxInt32, func(p *impl.Proto, n int) { p.Line = n }},
		{"the first Index", 0, 255, func(p *impl.Proto, n int) { p.Ups[0].Index = n }},
		{"the last Index", 0, 255, func(p *impl.Proto, n int) { p.Ups[1].Index = n }},
		{"Int", math.MinInt, math.MaxInt, func(p *impl.Proto, n int) { p.Consts[0].Int = n }},
		{"the first Op", 0, 255, func(p *impl.Proto, n int) { p.Code[0].Op = n }},
		{"the last Op", 0, 255, func(p *impl.Proto, n int) { p.Code[1].Op = n }},
		{"the first A", 0, 255, func(p *impl.Proto, n int) { p.Code[0].A = n }},
		{"the last A", 0, 255, func(p *impl.Proto, n int) { p.Code[1].A = n }},
		{"the first B", math.MinInt32, math.MaxInt32, func(p *impl.Proto, n int) { p.Code[0].B = n }},
		{"the last B", math.MinInt32, math.MaxInt32, func(p *impl.Proto, n int) { p.Code[1].B = n }},
		{"the first C", math.MinInt32, math.MaxInt32, func(p *impl.Proto, n int) { p.Code[0].C = n }},
		{"the last C", math.MinInt32, math.MaxInt32, func(p *impl.Proto, n int) { p.Code[1].C = n }},
		{"the first of Lines", 0, math.MaxInt32, func(p *impl.Proto, n int) { p.Lines[0] = n }},
		{"the last of Lines", 0, math.MaxInt32, func(p *impl.Proto, n int) { p.Lines[1] = n }},
	}
}

func TestWriteChunkNumbersAtTheirEnds(t *testing.T) {
	spots := []int{0, 1, 127, 128, 254, 255, 256, 257, 511, 512, 65535, 65536, math.MaxInt32, math.MaxInt32 + 1, math.MaxUint32, math.MaxUint32 + 1, 1<<40 + 1, math.MaxInt - 1, math.MaxInt}
	for _, n := range slices.Clone(spots) {
		spots = append(spots, -n, -n-1)
	}
	for _, number := range placedNumbers() {
		for _, n := range spots {
			change := func(p *impl.Proto) { number.set(p, n) }
			if n >= number.least && n <= number.greatest {
				checkEachWritten(t, change)
			} else {
				checkEachNotWritten(t, fmt.Sprintf("%d as %s", n, number.name), change)
			}
		}
	}
}

// many is a list of so many elements.
func many[T any](one T, count int) []T { return slices.Repeat([]T{one}, count) }

func TestWriteChunkLengthsAtTheirEnds(t *testing.T) {
	instr, constant := impl.Instr{Op: 1, B: -1}, impl.Const{Kind: impl.NodeString}
	checkEachWritten(t, func(p *impl.Proto) { p.Ups = many(impl.Up{Index: 1}, 255) })
	checkEachNotWritten(t, "256 upvalues", func(p *impl.Proto) { p.Ups = many(impl.Up{Index: 1}, 256) })
	checkEachNotWritten(t, "512 upvalues", func(p *impl.Proto) { p.Ups = many(impl.Up{Index: 1}, 512) })
	checkEachWritten(t, func(p *impl.Proto) { p.Consts = many(constant, 65535) })
	checkEachNotWritten(t, "65536 constants", func(p *impl.Proto) { p.Consts = many(constant, 65536) })
	checkEachNotWritten(t, "131072 constants", func(p *impl.Proto) { p.Consts = many(constant, 131072) })
	checkEachWritten(t, func(p *impl.Proto) { p.Code, p.Lines = many(instr, 65535), many(1, 65535) })
	checkEachNotWritten(t, "65536 instructions", func(p *impl.Proto) { p.Code, p.Lines = many(instr, 65536), many(1, 65536) })
	for _, p := range []impl.Proto{{}, fullProto()} {
		checkThereAndBack(t, impl.Chunk{Protos: many(p, 65535)})
		checkNotWritten(t, "65536 functions", impl.Chunk{Protos: many(p, 65536)})
	}
}

func TestWriteChunkLinesAsManyAsCode(t *testing.T) {
	for codes := range 4 {
		for lines := range 4 {
			change := func(p *impl.Proto) { p.Code, p.Lines = many(impl.Instr{Op: 1}, codes), many(1, lines) }
			if codes == lines {
				checkEachWritten(t, change)
			} else {
				checkEachNotWritten(t, fmt.Sprintf("%d instructions with %d lines", codes, lines), change)
			}
		}
	}
	checkEachNotWritten(t, "a line too many", func(p *impl.Proto) { p.Lines = many(1, 65537) })
}

func TestWriteChunkKindsOfConstants(t *testing.T) {
	for kind := -3; kind < 300; kind++ {
		change := func(p *impl.Proto) { p.Consts[1] = impl.Const{Kind: kind} }
		if kind == impl.NodeInt || kind == impl.NodeFloat || kind == impl.NodeString {
			checkEachWritten(t, change)
		} else {
			checkEachNotWritten(t, fmt.Sprintf("a constant of the kind %d", kind), change)
		}
	}
	for _, kind := range []int{math.MinInt, math.MaxInt, 1<<32 + impl.NodeInt, 1<<16 + impl.NodeString, impl.NodeFloat - 256} {
		checkEachNotWritten(t, fmt.Sprintf("a constant of the kind %d", kind), func(p *impl.Proto) { p.Consts[2] = impl.Const{Kind: kind} })
	}
}

func TestWriteChunkFieldsOfConstants(t *testing.T) {
	for _, c := range []impl.Const{
		{Kind: impl.NodeInt, Bits: 1}, {Kind: impl.NodeInt, Int: 1, Bits: 1}, {Kind: impl.NodeInt, Bits: 1 << 63}, {Kind: impl.NodeInt, Text: "x"}, {Kind: impl.NodeInt, Int: 1, Text: "\x00"},
		{Kind: impl.NodeFloat, Int: 1}, {Kind: impl.NodeFloat, Bits: 1, Int: -1}, {Kind: impl.NodeFloat, Text: "x"}, {Kind: impl.NodeFloat, Bits: 1, Text: "\x00"},
		{Kind: impl.NodeString, Int: 1}, {Kind: impl.NodeString, Text: "x", Int: math.MinInt}, {Kind: impl.NodeString, Bits: 1}, {Kind: impl.NodeString, Text: "x", Bits: 1 << 63},
	} {
		for place := range 3 {
			checkEachNotWritten(t, fmt.Sprintf("%+v", c), func(p *impl.Proto) { p.Consts[place] = c })
		}
	}
}

func TestWriteChunkWordsOfNan(t *testing.T) {
	const infinity, fraction = 0x7FF0000000000000, 0x000FFFFFFFFFFFFF
	refused := []uint64{infinity | 1, infinity | fraction, 0xFFF8000000000000, 0xFFFFFFFFFFFFFFFF, 0x7FF8000000000001, 0x7FF8000000000002, 0x7FF7FFFFFFFFFFFF, 0x7FFC000000000000}
	for bit := range 52 {
		for _, sign := range []uint64{0, 1 << 63} {
			if word := sign | infinity | 1<<bit; word != 0x7FF8000000000000 {
				refused = append(refused, word)
			}
		}
	}
	for _, word := range refused {
		checkEachNotWritten(t, fmt.Sprintf("the word %x", word), func(p *impl.Proto) { p.Consts[1].Bits = word })
	}
	for _, word := range []uint64{0x7FF8000000000000, infinity, 1<<63 | infinity, infinity - 1, 1<<63 | (infinity - 1), 0, 1 << 63, 1, fraction} {
		checkEachWritten(t, func(p *impl.Proto) { p.Consts[1].Bits = word })
	}
	checkEachWritten(t, func(p *impl.Proto) { p.Consts[0].Int = infinity | 1 })
}

func TestWriteChunkLongStrings(t *testing.T) {
	for _, length := range []int{255, 256, 32768, 65535, 65536} {
		checkEachWritten(t, func(p *impl.Proto) { p.Consts[2].Text = strings.Repeat("\xfe", length) })
	}
	for _, length := range []int{65537, 65538, 131072, 1 << 20} {
		checkEachNotWritten(t, fmt.Sprintf("a string of %d bytes", length), func(p *impl.Proto) { p.Consts[2].Text = strings.Repeat("\xfe", length) })
	}
	if impl.MaxString != 65536 {
		t.Errorf("MaxString is %d", impl.MaxString)
	}
}

// Chapter 1: the argument stays as it was, what lies behind the ends of its lists too; two answers share nothing.
func TestWriteChunkSharesNothing(t *testing.T) {
	c, _ := impl.Compile("local a, b = 70000, 'x' function f(x) return a, b, function() return a, x, 1.5 end end")
	for _, given := range []impl.Chunk{copyChunk(c), copyChunk(impl.Chunk{Protos: []impl.Proto{fullProto(), {Regs: 256}}}), copyChunk(impl.Chunk{Protos: []impl.Proto{{}}})} {
		was := wholeText(given)
		first, code := impl.WriteChunk(given)
		want := slices.Clone(first)
		second, _ := impl.WriteChunk(given)
		clear(first[:cap(first)])
		if !bytes.Equal(second, want) {
			t.Errorf("two answers share memory")
		}
		if third, again := impl.WriteChunk(given); !bytes.Equal(third, want) || again != code {
			t.Errorf("writing into one answer changes the next")
		}
		if is := wholeText(given); is != was {
			t.Errorf("WriteChunk has made\n%s of\n%s", is, was)
		}
	}
}
