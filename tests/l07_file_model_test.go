package tests

import (
	"bytes"
	"encoding/binary"
	"fmt"
	"hash/crc32"
	"io"
	"math"
	"slices"
	"strconv"
	"strings"
	"testing"

	"loop.example/g00002/impl"
)

// The model says chapter 8 once more, with the library's own numbers and sums.

// withSum is bytes with their sum behind them.
func withSum(body []byte) []byte {
	return binary.LittleEndian.AppendUint32(slices.Clone(body), crc32.ChecksumIEEE(body))
}

// laid is the file of bytes told in hexadecimal, with the eight first ones ahead and the sum behind. A # begins a comment.
func laid(text string) []byte {
	file := []byte("chunk-01")
	for _, line := range strings.Split(text, "\n") {
		line, _, _ = strings.Cut(line, "#")
		for _, word := range strings.Fields(line) {
			n, err := strconv.ParseUint(word, 16, 8)
			if err != nil {
				panic(err)
			}
			file = append(file, byte(n))
		}
	}
	return withSum(file)
}

// modelFile lays down a chunk; there is no file of one that can't be written.
func modelFile(c impl.Chunk) ([]byte, bool) {
	if len(c.Protos) > 65535 {
		return nil, false
	}
	file := bytes.NewBufferString("chunk-01")
	put := func(parts ...any) {
		for _, part := range parts {
			if err := binary.Write(file, binary.LittleEndian, part); err != nil {
				panic(err)
			}
		}
	}
	put(uint16(len(c.Protos)))
	for _, p := range c.Protos {
		if !canBeWritten(p) {
			return nil, false
		}
		put(uint8(p.Params), p.Dots, uint8(p.Regs), uint32(p.Line), uint8(len(p.Ups)))
		for _, up := range p.Ups {
			put(up.FromLocal, uint8(up.Index))
		}
		put(uint16(len(p.Consts)))
		for _, k := range p.Consts {
			put(uint8(k.Kind))
			switch k.Kind {
			case impl.NodeInt:
				put(int64(k.Int))
			case impl.NodeFloat:
				put(math.Float64frombits(k.Bits))
			default:
				put(uint32(len(k.Text)), []byte(k.Text))
			}
		}
		put(uint16(len(p.Code)))
		for at, i := range p.Code {
			put(uint8(i.Op), uint8(i.A), int32(i.B), int32(i.C), uint32(p.Lines[at]))
		}
	}
	return withSum(file.Bytes()), true
}

// modelReader reads a file; failed is set once something isn't as it must be.
type modelReader struct {
	*bytes.Reader
	failed bool
}

func (r *modelReader) ask(holds bool) { r.failed = r.failed || !holds }

func next[T any](r *modelReader) T {
	var value T
	r.ask(binary.Read(r, binary.LittleEndian, &value) == nil)
	return value
}

func (r *modelReader) truth() bool {
	n := next[uint8](r)
	r.ask(n < 2)
	return n == 1
}

func (r *modelReader) line() int {
	line := next[int32](r)
	r.ask(line >= 0)
	return int(line)
}

// times does something for each of so many elements, until reading fails.
func (r *modelReader) times(count int, do func()) {
	for i := 0; i < count && !r.failed; i++ {
		do()
	}
}

func (r *modelReader) constant() impl.Const {
	k := impl.Const{Kind: int(next[uint8](r))}
	switch k.Kind {
	case impl.NodeInt:
		k.Int = int(next[int64](r))
	case impl.NodeFloat:
		k.Bits = next[uint64](r)
		magnitude := k.Bits << 1 >> 1
		r.ask(magnitude <= 0x7FF0000000000000 || k.Bits == 0x7FF8000000000000)
	case impl.NodeString:
		length := int(next[uint32](r))
		r.ask(length <= 65536)
		if !r.failed {
			text := make([]byte, length)
			_, err := io.ReadFull(r, text)
			r.ask(err == nil)
			k.Text = string(text)
		}
	default:
		r.ask(false)
	}
	return k
}

func (r *modelReader) function() impl.Proto {
	p := impl.Proto{Params: int(next[uint8](r)), Dots: r.truth(), Regs: int(next[uint8](r)), Line: r.line()}
	r.times(int(next[uint8](r)), func() {
		p.Ups = append(p.Ups, impl.Up{FromLocal: r.truth(), Index: int(next[uint8](r))})
	})
	r.times(int(next[uint16](r)), func() { p.Consts = append(p.Consts, r.constant()) })
	r.times(int(next[uint16](r)), func() {
		i := next[struct {
			Op, A uint8
			B, C  int32
		}](r)
		p.Code = append(p.Code, impl.Instr{Op: int(i.Op), A: int(i.A), B: int(i.B), C: int(i.C)})
		p.Lines = append(p.Lines, r.line())
	})
	return p
}

// modelChunk reads a file, and tells whether it is one.
func modelChunk(b []byte) (impl.Chunk, bool) {
	if len(b) < 12 || string(b[:8]) != "chunk-01" || !bytes.Equal(b, withSum(b[:len(b)-4])) {
		return impl.Chunk{}, false
	}
	r := &modelReader{Reader: bytes.NewReader(b[8 : len(b)-4])}
	var c impl.Chunk
	r.times(int(next[uint16](r)), func() { c.Protos = append(c.Protos, r.function()) })
	if r.failed || r.Len() != 0 {
		return impl.Chunk{}, false
	}
	return c, true
}

func sameProto(a, b impl.Proto) bool {
	return a.Params == b.Params && a.Regs == b.Regs && a.Line == b.Line && a.Dots == b.Dots &&
		slices.Equal(a.Ups, b.Ups) && slices.Equal(a.Consts, b.Consts) && slices.Equal(a.Code, b.Code) && slices.Equal(a.Lines, b.Lines)
}

func sameChunk(a, b impl.Chunk) bool { return slices.EqualFunc(a.Protos, b.Protos, sameProto) }

// copyChunk is a chunk that shares no memory with another; its lists have room behind their ends.
func copyChunk(c impl.Chunk) impl.Chunk {
	protos := slices.Clone(c.Protos)
	for i, p := range protos {
		p.Ups = append(append([]impl.Up{}, p.Ups...), impl.Up{Index: 91})[:len(p.Ups)]
		p.Consts = append(append([]impl.Const{}, p.Consts...), impl.Const{Int: 92})[:len(p.Consts)]
		p.Code = append(append([]impl.Instr{}, p.Code...), impl.Instr{Op: 93})[:len(p.Code)]
		p.Lines = append(append([]int{}, p.Lines...), 94)[:len(p.Lines)]
		protos[i] = p
	}
	return impl.Chunk{Protos: protos}
}

// wholeText tells a chunk with all that its lists have room for.
func wholeText(c impl.Chunk) string {
	var text strings.Builder
	for _, p := range c.Protos[:cap(c.Protos)] {
		fmt.Fprint(&text, p.Params, p.Regs, p.Line, p.Dots, len(p.Ups), len(p.Consts), len(p.Code), len(p.Lines),
			p.Ups[:cap(p.Ups)], p.Consts[:cap(p.Consts)], p.Code[:cap(p.Code)], p.Lines[:cap(p.Lines)], "\n")
	}
	return text.String()
}

// checkThereAndBack lays a chunk down, reads it and lays it down again (P9); it gives the file.
func checkThereAndBack(t *testing.T, c impl.Chunk) []byte {
	t.Helper()
	file, code := impl.WriteChunk(c)
	want, ok := modelFile(c)
	if code != 0 || !ok || !bytes.Equal(file, want) {
		t.Fatalf("WriteChunk(%.500s) tells %d and\n%.500x, want\n%.500x", codeText(c), code, file, want)
	}
	read, code := impl.ReadChunk(file)
	if code != 0 || !sameChunk(read, c) {
		t.Fatalf("ReadChunk(%.500x) tells %d and\n%.500s, want\n%.500s", file, code, codeText(read), codeText(c))
	}
	if again, code := impl.WriteChunk(read); code != 0 || !bytes.Equal(again, file) {
		t.Fatalf("the file %.500x is laid down again as %.500x, with code %d", file, again, code)
	}
	if code := checkListed(t, "a chunk that can be laid down", c); code == impl.ChunkBytes {
		t.Errorf("List refuses\n%.500s", codeText(c))
	}
	return file
}

// checkNotWritten looks that a chunk is refused.
func checkNotWritten(t *testing.T, what string, c impl.Chunk) {
	t.Helper()
	if file, code := impl.WriteChunk(c); code != impl.ChunkBytes || len(file) != 0 {
		t.Errorf("%s: WriteChunk tells %d and %d bytes, want %d and none", what, code, len(file), impl.ChunkBytes)
	}
	if text, code := impl.List(c); code != impl.ChunkBytes || text != "" {
		t.Errorf("%s: List tells %d and %s, want %d", what, code, short(text), impl.ChunkBytes)
	}
	if _, ok := modelFile(c); ok {
		t.Errorf("%s: the model writes it", what)
	}
}

// checkNoFile looks that bytes are refused.
func checkNoFile(t *testing.T, what string, b []byte) {
	t.Helper()
	if c, code := impl.ReadChunk(b); code != impl.ChunkBytes || len(c.Protos) != 0 {
		t.Errorf("%s: ReadChunk(%.200x) tells %d and %d functions, want %d and none", what, b, code, len(c.Protos), impl.ChunkBytes)
	}
}

// checkRead holds the reading of any bytes against the model, and tells whether they are a file.
func checkRead(t *testing.T, b []byte) bool {
	t.Helper()
	want, ok := modelChunk(b)
	if !ok {
		checkNoFile(t, "bytes that are no file", b)
		return false
	}
	if got, code := impl.ReadChunk(b); code != 0 || !sameChunk(got, want) {
		t.Errorf("ReadChunk(%.500x) tells %d and\n%.500s, want\n%.500s", b, code, codeText(got), codeText(want))
	} else if again, code := impl.WriteChunk(got); code != 0 || !bytes.Equal(again, b) {
		t.Errorf("the file %.500x is laid down again as %.500x, with code %d", b, again, code)
	}
	return true
}

// anyNumber is a number of so many bytes, often at one of its ends.
func (g *grower) anyNumber(bytes int) int {
	if g.pick(3) == 0 {
		return []int{0, 1, 127, 128, 255}[g.pick(5)]
	}
	return g.pick(1 << (8 * bytes))
}

func (g *grower) anyText() string {
	text := make([]byte, g.pick(12))
	for i := range text {
		text[i] = byte(g.anyNumber(1))
	}
	return string(text)
}

func (g *grower) anyConst() impl.Const {
	word := uint64(g.anyNumber(4))<<32 | uint64(g.anyNumber(4))
	switch g.pick(3) {
	case 0:
		return impl.Const{Kind: impl.NodeInt, Int: int(word)}
	case 1:
		if f := math.Float64frombits(word); f != f {
			word = 0x7FF8000000000000
		}
		return impl.Const{Kind: impl.NodeFloat, Bits: word}
	}
	return impl.Const{Kind: impl.NodeString, Text: g.anyText()}
}

// anyChunk is a chunk that can be written, safe or not.
func (g *grower) anyChunk() impl.Chunk {
	var c impl.Chunk
	line := func() int { return g.anyNumber(4) & math.MaxInt32 }
	signed := func() int { return int(int32(g.anyNumber(4))) }
	for range g.pick(4) {
		p := impl.Proto{Params: g.anyNumber(1), Regs: g.anyNumber(1), Line: line(), Dots: g.pick(2) == 0}
		for range g.pick(4) {
			p.Ups = append(p.Ups, impl.Up{FromLocal: g.pick(2) == 0, Index: g.anyNumber(1)})
		}
		for range g.pick(5) {
			p.Consts = append(p.Consts, g.anyConst())
		}
		for range g.pick(6) {
			p.Code = append(p.Code, impl.Instr{Op: g.anyNumber(1), A: g.anyNumber(1), B: signed(), C: signed()})
			p.Lines = append(p.Lines, line())
		}
		c.Protos = append(c.Protos, p)
	}
	return c
}

// anyChunks makes so many chunks.
func anyChunks(count int) []impl.Chunk {
	const each = 400
	chance := words(count*7 + each)
	var chunks []impl.Chunk
	for i := range count {
		g := grower{chance: chance[7*i : 7*i+each]}
		chunks = append(chunks, g.anyChunk())
	}
	return chunks
}
