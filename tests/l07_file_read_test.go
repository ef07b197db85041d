package tests

import (
	"bytes"
	"fmt"
	"runtime"
	"slices"
	"strings"
	"testing"

	"loop.example/g00002/impl"
)

// P9, the side of reading, and P10: what is a file, and what is none.

// someFiles are files of several kinds, none of them long.
func someFiles(t *testing.T) [][]byte {
	chunks := []impl.Chunk{{}, {Protos: []impl.Proto{{}}}, {Protos: []impl.Proto{fullProto()}}, {Protos: []impl.Proto{{}, fullProto(), {Line: 9}}}}
	for _, source := range []string{"", "return 1.5, 'x', 70000", "local a function f(...) a = ... end", "for i = 1, 3 do f{i, g()} end"} {
		c, _ := impl.Compile(source)
		chunks = append(chunks, c)
	}
	var files [][]byte
	for _, c := range chunks {
		files = append(files, checkThereAndBack(t, c))
	}
	return files
}

// body is a file without its sum.
func body(file []byte) []byte { return file[: len(file)-4 : len(file)-4] }

func TestReadChunkBeginnings(t *testing.T) {
	for _, file := range someFiles(t) {
		for length := range len(file) {
			checkNoFile(t, fmt.Sprintf("the first %d bytes", length), file[:length])
			if length < len(body(file)) {
				checkNoFile(t, fmt.Sprintf("the first %d bytes with their sum", length), withSum(file[:length]))
			}
			checkNoFile(t, fmt.Sprintf("all but %d bytes", length), file[len(file)-length:])
		}
	}
	checkNoFile(t, "nothing", nil)
	checkNoFile(t, "nothing with its sum", withSum(nil))
}

func TestReadChunkBytesTooMany(t *testing.T) {
	for _, file := range someFiles(t) {
		for b := range 256 {
			checkNoFile(t, "a byte more", append(slices.Clone(file), byte(b)))
			checkNoFile(t, "a byte more ahead", append([]byte{byte(b)}, file...))
			checkNoFile(t, "a byte more with its sum", withSum(append(body(file), byte(b))))
		}
		checkNoFile(t, "the file twice", append(slices.Clone(file), file...))
		checkNoFile(t, "the file twice, with its sum", withSum(append(body(file), body(file)...)))
		checkNoFile(t, "the sum twice", withSum(file))
	}
}

// Each byte of a file put in, left out, and changed to each other one, with the sum set right again.
func TestReadChunkOfChangedBytes(t *testing.T) {
	whole, refused := 0, 0
	check := func(b []byte) {
		if checkRead(t, withSum(b)) {
			whole++
		} else {
			refused++
		}
	}
	for _, file := range someFiles(t) {
		for at := range body(file) {
			changed := slices.Clone(body(file))
			for b := range 256 {
				changed[at] = byte(b)
				check(changed)
			}
			check(slices.Delete(slices.Clone(body(file)), at, at+1))
			for _, b := range []byte{0, 1, 4, 6, 255} {
				check(slices.Insert(slices.Clone(body(file)), at, b))
			}
		}
	}
	if whole < 10000 || refused < 10000 {
		t.Errorf("%d are files, %d are none", whole, refused)
	}
}

func TestReadChunkHeads(t *testing.T) {
	rest := "\x00\x00"
	for _, head := range []string{"chunk-02", "chunk-00", "chunk_01", "Chunk-01", "chunk-01\x00", "chunk-1", "", "\x00\x00\x00\x00\x00\x00\x00\x00", "10-knuhc"} {
		checkNoFile(t, head, withSum([]byte(head+rest)))
	}
	if !checkRead(t, withSum([]byte("chunk-01"+rest))) {
		t.Errorf("the model refuses the file of no function")
	}
	for at := range 8 {
		for b := range 256 {
			changed := []byte("chunk-01" + rest)
			changed[at] = byte(b)
			if b != int("chunk-01"[at]) {
				checkNoFile(t, "another head", withSum(changed))
			}
		}
	}
}

// oneOf are the bytes of a function in which one part is told and all others are as short as may be.
func oneOf(part, told string) string {
	texts := map[string]string{"head": "00 00 00 00 00 00 00", "ups": "00", "consts": "00 00", "code": "00 00"}
	texts[part] = told
	return "01 00 " + texts["head"] + " " + texts["ups"] + " " + texts["consts"] + " " + texts["code"]
}

func TestReadChunkParts(t *testing.T) {
	instruction := "01 00 00 00 00 00 00 00 00 00 "
	for _, c := range []struct {
		part, right string
		wrong       []string
	}{
		{"head", "00 00 00 00 00 00 00", []string{"00 02 00 00 00 00 00", "00 ff 00 00 00 00 00", "00 80 00 00 00 00 00", "00 00 00 00 00 00 80", "00 00 00 ff ff ff ff"}},
		{"head", "ff 01 ff ff ff ff 7f", []string{"ff 03 ff ff ff ff 7f", "ff 01 ff ff ff ff 80", "ff 01 ff ff ff ff 7f 00"}},
		{"ups", "01 00 00", []string{"01 02 00", "01 ff 00", "02 00 00", "01 00", "00 00 00", "ff 00 00"}},
		{"ups", "02 01 ff 00 ff", []string{"02 01 ff 02 ff", "02 02 ff 00 ff", "01 01 ff 00 ff", "03 01 ff 00 ff"}},
		{"consts", "01 00 04 00 00 00 00 00 00 00 80", []string{"01 00 03 00 00 00 00 00 00 00 80", "01 00 07 00 00 00 00 00 00 00 80", "01 00 00 00 00 00 00 00 00 00 80", "01 00 ff 00 00 00 00 00 00 00 80", "01 00 04 00 00 00 00 00 00 80", "01 00 84 00 00 00 00 00 00 00 80"}},
		{"consts", "01 00 05 00 00 00 00 00 00 f8 7f", []string{"01 00 05 01 00 00 00 00 00 f8 7f", "01 00 05 00 00 00 00 00 00 f8 ff", "01 00 05 00 00 00 00 00 00 f4 7f", "01 00 05 ff ff ff ff ff ff ff ff", "01 00 05 01 00 00 00 00 00 f0 7f", "01 00 05 01 00 00 00 00 00 f0 ff"}},
		{"consts", "01 00 05 00 00 00 00 00 00 f0 7f", nil},
		{"consts", "01 00 05 00 00 00 00 00 00 f0 ff", nil},
		{"consts", "01 00 05 00 00 00 00 00 00 00 80", nil},
		{"consts", "01 00 06 00 00 00 00", []string{"01 00 06 05 00 00 00", "01 00 06 00 00 00 80", "01 00 06 ff ff ff ff", "01 00 06 00 00 01 00", "01 00 06 01 00 01 00", "01 00 06 00 00 00"}},
		{"consts", "01 00 06 02 00 00 00 00 ff", []string{"01 00 06 01 00 00 00 00 ff", "01 00 06 03 00 00 00 00 ff", "01 01 06 02 00 00 00 00 ff", "02 00 06 02 00 00 00 00 ff", "00 00 06 02 00 00 00 00 ff"}},
		{"code", "01 00 " + instruction + "ff ff ff 7f", []string{"01 00 " + instruction + "00 00 00 80", "01 00 " + instruction + "ff ff ff ff", "01 00 " + instruction, "02 00 " + instruction + "00 00 00 00", "00 00 " + instruction + "00 00 00 00", "01 01 " + instruction + "00 00 00 00"}},
		{"code", "01 00 ff ff ff ff ff ff ff ff ff ff 00 00 00 00", []string{"01 00 ff ff ff ff ff ff ff ff ff ff 00 00 00 ff"}},
	} {
		if !checkRead(t, laid(oneOf(c.part, c.right))) {
			t.Errorf("%s %s is refused", c.part, c.right)
		}
		for _, wrong := range c.wrong {
			checkNoFile(t, c.part+" "+wrong, laid(oneOf(c.part, wrong)))
		}
	}
}

// Strings of a file are bounded as those that are laid down.
func TestReadChunkLongStrings(t *testing.T) {
	for _, c := range []struct {
		count  string
		length int
		ok     bool
	}{
		{"ff ff 00 00", 65535, true}, {"00 00 01 00", 65536, true}, {"01 00 01 00", 65537, false}, {"00 00 02 00", 131072, false},
		{"00 00 01 00", 65535, false}, {"00 00 01 00", 65537, false},
	} {
		text := strings.Repeat(" 78", c.length)
		file := laid(oneOf("consts", "01 00 06 "+c.count+text))
		if got := checkRead(t, file); got != c.ok {
			t.Errorf("a string of the length %s with %d bytes: it is a file: %v", c.count, c.length, got)
		}
	}
}

// bytesTaken is how much memory a call takes, all in all.
func bytesTaken(call func()) uint64 {
	const calls = 100
	var ahead, behind runtime.MemStats
	runtime.ReadMemStats(&ahead)
	for range calls {
		call()
	}
	runtime.ReadMemStats(&behind)
	return (behind.TotalAlloc - ahead.TotalAlloc) / calls
}

// Numbers of elements that can't be: none may take memory or time as if they were there.
func TestReadChunkOfGreatClaims(t *testing.T) {
	for _, text := range []string{
		"ff ff", "ff ff 00 00 00 00 00 00 00 ff", "01 00 00 00 00 00 00 00 00 00 ff ff", "01 00 00 00 00 00 00 00 00 00 00 00 ff ff",
		"01 00 00 00 00 00 00 00 00 00 ff ff 06 ff ff ff 7f", "01 00 00 00 00 00 00 00 00 00 ff ff 06 ff ff ff ff", "ff ff ff ff ff ff ff ff ff ff ff ff ff",
	} {
		file := laid(text)
		checkNoFile(t, text, file)
		if taken := bytesTaken(func() { impl.ReadChunk(file) }); taken > 10000 {
			t.Errorf("%s takes %d bytes of memory", text, taken)
		}
	}
	checkNoFile(t, "a function ahead of none", laid("ff ff"+strings.Repeat(" 00 00 00 00 00 00 00 00 00 00 00 00", 65534)))
	if !checkRead(t, laid("ff ff"+strings.Repeat(" 00 00 00 00 00 00 00 00 00 00 00 00", 65535))) {
		t.Errorf("65535 functions are refused")
	}
}

func TestReadChunkOfRandomBytes(t *testing.T) {
	var row []byte
	for _, word := range words(30000) {
		row = append(row, byte(word>>16), byte(word>>24), byte(word>>32))
	}
	whole := 0
	for i := range 20000 {
		some := row[4*i : 4*i+i%97]
		checkRead(t, some)
		checkRead(t, withSum(some))
		checkRead(t, withSum(append([]byte("chunk-01"), some...)))
		// Small numbers of elements come to an end now and then.
		small := []byte("chunk-01\x01\x00")
		for at, b := range some {
			small = append(small, b%byte(2+at%5))
		}
		if checkRead(t, withSum(small)) {
			whole++
		}
	}
	if whole == 0 {
		t.Errorf("none of them is a file")
	}
}

func TestFilesOfRandomChunks(t *testing.T) {
	for i, c := range anyChunks(5000) {
		file := checkThereAndBack(t, c)
		if at := i * 31 % len(file); i%4 == 0 {
			checkRead(t, file[:at])
			checkRead(t, withSum(file[:at]))
			turned := slices.Clone(body(file))
			turned[at%len(turned)] ^= 1 << (i % 8)
			checkRead(t, withSum(turned))
		}
	}
}

// P9 of texts, with the code of each safe (P8).
func TestFilesOfTexts(t *testing.T) {
	t.Parallel()
	texts, _ := grown(1500)
	texts = append(texts, codedTexts(2500)...)
	texts = append(texts, formsOfGrammar()...)
	for _, rare := range []int{1, 4, 30} {
		texts = append(texts, scopedTexts(300, rare)...)
	}
	for _, l := range large() {
		texts = append(texts, l.fits)
	}
	whole := 0
	for _, source := range texts {
		c, fault := impl.Compile(source)
		if fault.Code != 0 {
			continue
		}
		whole++
		checkThereAndBack(t, c)
		if v := impl.Verify(c); v != (impl.Verdict{}) {
			t.Errorf("the code of %.2000q is told not to be safe: %+v", source, v)
		}
	}
	if whole < 3000 {
		t.Errorf("there are but %d texts without a fault", whole)
	}
}

// P10: each bit of a file, those of the sum too.
func TestFilesWithOneBitTurned(t *testing.T) {
	files := someFiles(t)
	for i, source := range append(codedTexts(60), formsOfGrammar()...) {
		c, _ := impl.Compile(source)
		if file, _ := impl.WriteChunk(c); i%3 == 0 && len(file) < 3000 {
			files = append(files, file)
		}
	}
	for _, file := range files {
		turned := slices.Clone(file)
		for at := range turned {
			for bit := range 8 {
				turned[at] ^= 1 << bit
				checkNoFile(t, fmt.Sprintf("bit %d of byte %d turned", bit, at), turned)
				turned[at] ^= 1 << bit
			}
		}
		if _, code := impl.ReadChunk(turned); code != 0 {
			t.Errorf("the file with all bits turned back isn't read")
		}
	}
}

// A sum that is another's, or told in another order, is none.
func TestReadChunkSums(t *testing.T) {
	for _, file := range someFiles(t) {
		sum := file[len(file)-4:]
		turned := slices.Clone(sum)
		slices.Reverse(turned)
		for _, wrong := range [][]byte{turned, {^sum[0], ^sum[1], ^sum[2], ^sum[3]}, {0, 0, 0, 0}, {255, 255, 255, 255}, {sum[0] + 1, sum[1], sum[2], sum[3]}} {
			checkNoFile(t, "a wrong sum", append(body(file), wrong...))
		}
	}
}

// checkOwnLists looks that no two lists of a chunk share memory, what lies behind their ends included. It leaves other numbers in them.
func checkOwnLists(t *testing.T, c impl.Chunk) {
	t.Helper()
	for i, p := range c.Protos {
		for j := range p.Ups[:cap(p.Ups)] {
			p.Ups[:cap(p.Ups)][j].Index = 1000*i + j
		}
		for j := range p.Consts[:cap(p.Consts)] {
			p.Consts[:cap(p.Consts)][j].Int = 1000*i + j
		}
		for j := range p.Code[:cap(p.Code)] {
			p.Code[:cap(p.Code)][j].A = 1000*i + j
		}
		for j := range p.Lines[:cap(p.Lines)] {
			p.Lines[:cap(p.Lines)][j] = 1000*i + j
		}
	}
	for i, p := range c.Protos {
		same := true
		for j, up := range p.Ups[:cap(p.Ups)] {
			same = same && up.Index == 1000*i+j
		}
		for j, k := range p.Consts[:cap(p.Consts)] {
			same = same && k.Int == 1000*i+j
		}
		for j, instr := range p.Code[:cap(p.Code)] {
			same = same && instr.A == 1000*i+j
		}
		for j, line := range p.Lines[:cap(p.Lines)] {
			same = same && line == 1000*i+j
		}
		if !same {
			t.Errorf("lists of function %d share memory with others", i)
		}
	}
}

// Chapter 1: the argument stays as it was and isn't kept, and each list of an answer is its own.
func TestReadChunkSharesNothing(t *testing.T) {
	p := fullProto()
	p.Code, p.Lines = many(impl.Instr{Op: 1}, 100), many(5, 100)
	c := impl.Chunk{Protos: []impl.Proto{p, fullProto(), p, fullProto(), {}}}
	file, _ := impl.WriteChunk(c)
	given := append(slices.Clone(file), "what lies behind"...)
	was := slices.Clone(given)
	first, _ := impl.ReadChunk(given[:len(file)])
	second, _ := impl.ReadChunk(given[:len(file)])
	impl.ReadChunk(given[:len(file)-1])
	if !bytes.Equal(given, was) {
		t.Errorf("ReadChunk has changed its argument")
	}
	clear(given)
	if !sameChunk(first, c) || !sameChunk(second, c) {
		t.Errorf("an answer keeps its argument")
	}
	checkOwnLists(t, first)
	clear(first.Protos[:cap(first.Protos)])
	if third, _ := impl.ReadChunk(file); !sameChunk(second, c) || !sameChunk(third, c) {
		t.Errorf("two answers share memory")
	}
}
