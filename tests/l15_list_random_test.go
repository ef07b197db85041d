package tests

import (
	"fmt"
	"slices"
	"strings"
	"sync"
	"testing"

	"loop.example/g00002/impl"
)

// listable gives most instructions of a chunk a name, and has many jumps go to places of instructions.
func (g *grower) listable(c impl.Chunk) impl.Chunk {
	ops := knownOps()
	for _, p := range c.Protos {
		for at := range p.Code {
			i := &p.Code[at]
			if g.pick(100) > 0 {
				i.Op = ops[g.pick(len(ops))]
			}
			if g.pick(3) == 0 {
				i.Op = jumpOps()[g.pick(len(jumpOps()))]
			}
			if g.pick(2) == 0 {
				i.B = g.pick(len(p.Code)+2) - 1
			}
		}
	}
	return c
}

// listableChunks makes so many chunks, most of which can be listed, safe or not.
func listableChunks(count int) []impl.Chunk {
	const each = 600
	chance := words(count*9 + each)
	chunks := anyChunks(count)
	for i, chunk := range chunks {
		g := grower{chance: chance[9*i : 9*i+each]}
		chunks[i] = g.listable(chunk)
	}
	return chunks
}

// P27 for chunks made at random, most of them unsafe.
func TestListOfRandomChunks(t *testing.T) {
	t.Parallel()
	chunks := append(anyChunks(3000), listableChunks(6000)...)
	codes := make([]map[int]int, len(chunks))
	safe := make([]bool, len(chunks))
	inParallel(len(chunks), func(i int) {
		_, code := checkListedByModel(t, fmt.Sprint(i), chunks[i])
		codes[i] = map[int]int{code: 1}
		safe[i] = impl.Verify(chunks[i]).Code == 0
	})
	checkCodesCome(t, codes, 1000, 0, impl.ChunkOp)
	if !slices.Contains(safe, false) {
		t.Errorf("all are safe")
	}
}

// P27 for the chunks of texts of all kinds, for code with things changed in it, and for what Optimize makes of those that are safe.
func TestListOfTexts(t *testing.T) {
	t.Parallel()
	written, _ := grown(300)
	texts := slices.Concat(grownRuns(300, true), heapTexts(300), modestTexts(100), alone, deepTexts(), codedTexts(500), scopedTexts(300, 40), written, []string{impl.Prelude()})
	const each = 100
	chance := words(len(texts)*9 + each)
	codes := make([]map[int]int, len(texts))
	inParallel(len(texts), func(i int) {
		codes[i] = map[int]int{}
		chunk, fault := impl.Compile(texts[i])
		if fault.Code != 0 {
			return
		}
		g := grower{chance: chance[9*i : 9*i+each]}
		changed := copyChunk(chunk)
		g.turnProto(&changed.Protos[g.pick(len(changed.Protos))])
		chunks := []impl.Chunk{chunk, changed}
		if short, verdict := impl.Optimize(chunk); verdict.Code == 0 {
			chunks = append(chunks, short)
		}
		for _, chunk := range chunks {
			_, code := checkListedByModel(t, texts[i], chunk)
			codes[i][code]++
		}
	})
	checkCodesCome(t, codes, 10, 0, impl.ChunkOp, impl.ChunkBytes)
}

// P27 for functions that hold hardly more than jumps, and for what Optimize makes of them.
func TestListOfJumpyCode(t *testing.T) {
	t.Parallel()
	chunks := jumpyChunks(t, 1000)
	inParallel(len(chunks), func(i int) {
		short, _ := impl.Optimize(chunks[i])
		for _, chunk := range []impl.Chunk{chunks[i], short} {
			if _, code := checkListedByModel(t, "jumps", chunk); code != 0 {
				t.Errorf("%d of\n%s", code, codeText(chunk))
			}
		}
	})
}

// What has been listed and read again runs as it did.
func TestListedTextsRun(t *testing.T) {
	t.Parallel()
	texts := slices.Concat(grownRuns(200, true), heapTexts(200), alone)
	inParallel(len(texts), func(i int) {
		chunk, fault := impl.Compile(texts[i])
		if fault.Code != 0 {
			return
		}
		text, _ := impl.List(chunk)
		again, _ := impl.Assemble(text)
		if first, second := impl.Exec(chunk, smallLimits(i)), impl.Exec(again, smallLimits(i)); !sameOutcome(first, second) {
			t.Errorf("%s\n%s\n%s", texts[i], outcomeText(first), outcomeText(second))
		}
	})
}

// changedListings are listings of which something of everything is in, for a byte to be changed in.
func changedListings(t *testing.T) []string {
	t.Helper()
	full, _ := impl.List(impl.Chunk{Protos: []impl.Proto{coding(impl.Instr{Op: impl.InsJump, B: 1}, impl.Instr{Op: impl.InsTick}).Protos[0], {Line: 12, Params: 3, Dots: true, Regs: 4,
		Ups: []impl.Up{{FromLocal: true, Index: 4}, {Index: 1}}, Consts: []impl.Const{{Kind: impl.NodeInt, Int: -5}, {Kind: impl.NodeFloat, Bits: 0x3FF8000000000000}, {Kind: impl.NodeString, Text: "a\"\n;"}},
		Code: []impl.Instr{{Op: impl.InsForPrep, B: 1}, {Op: impl.InsJumpIf, B: 0, C: -1}, {Op: impl.InsArith + impl.NumNot}}, Lines: []int{10, 2, 3}}}})
	return []string{full, "@1: 1 jump 0 @1 0", plainHead + "@1: 1 jump 0 @2 0\n@2: 1 jump 0 @1 0\n@3: 1 tick 0 0 0\n@11: 1 tick 0 0 0\n", plainHead + "1 jump 0 @1 0;\n@01: 1 nil 0x1 0 0", "function 1 params 0 dots 1 regs 1\nconst float nan\nconst float -inf\nconst string \"\\x41\\65\" ; c"}
}

// tellingBytes are bytes that make a difference, in listings.
const tellingBytes = "\t\n\r ;\"'@:-+.,#\\\x00\xff_eExXnaf0179zZ"

// Listings with one byte changed, left out or put in, at each place.
func TestAssembleOfChangedListings(t *testing.T) {
	t.Parallel()
	var texts []string
	for _, text := range changedListings(t) {
		for at := range len(text) + 1 {
			ahead, behind := text[:at], text[at:]
			for _, b := range []byte(tellingBytes) {
				texts = append(texts, ahead+string([]byte{b})+behind)
				if behind != "" {
					texts = append(texts, ahead+string([]byte{b})+behind[1:])
				}
			}
			if behind != "" {
				texts = append(texts, ahead+behind[1:], ahead, behind)
			}
		}
	}
	codes := make([]map[int]int, len(texts))
	inParallel(len(texts), func(i int) { codes[i] = map[int]int{checkAssembledByModel(t, texts[i]): 1} })
	checkCodesCome(t, codes, 5, 0, impl.ListByte, impl.ListWord, impl.ListNumber, impl.ListString, impl.ListPlace, impl.ListTwice, impl.ListLabel, impl.ListMore)
}

// The listings of texts, and of functions that hold hardly more than jumps, with a byte or two changed, left out or put in.
func TestAssembleOfChangedTexts(t *testing.T) {
	t.Parallel()
	chunks := jumpyChunks(t, 200)
	for _, source := range append(grownRuns(150, false), codedTexts(150)...) {
		if chunk, fault := impl.Compile(source); fault.Code == 0 {
			chunks = append(chunks, chunk)
		}
	}
	const each = 400
	chance := words(len(chunks)*11 + each)
	codes := make([]map[int]int, len(chunks))
	inParallel(len(chunks), func(i int) {
		codes[i] = map[int]int{}
		listing, _ := impl.List(chunks[i])
		g := grower{chance: chance[11*i : 11*i+each]}
		for range 20 {
			text := []byte(listing)
			for range 1 + g.pick(2) {
				at := g.pick(len(text))
				b := tellingBytes[g.pick(len(tellingBytes))]
				switch g.pick(3) {
				case 0:
					text[at] = b
				case 1:
					text = slices.Delete(text, at, at+1)
				case 2:
					text = slices.Insert(text, at, b)
				}
			}
			codes[i][checkAssembledByModel(t, string(text))]++
		}
	})
	checkCodesCome(t, codes, 1, 0, impl.ListByte, impl.ListWord, impl.ListNumber, impl.ListString, impl.ListPlace, impl.ListTwice, impl.ListLabel, impl.ListMore)
}

// listedLine is a line of a listing, most often a right one.
func (g *grower) listedLine() string {
	any := []string{"0", "1", "2", "-1", "0x1F", "007", "255", "9223372036854775807", "9223372036854775808", "1.5", "1e3", ".5", "nan", "inf", "-inf", "-0.0", "@0", "@1", "@01", "@2", "@0:", "@1:", "\"\"", "\"a b;\"", "\"\\n\\065\"", "\"\\q\"", "\"a", "x",
		"_", "function", "params", "up", "const", "int", "float", "string", "local", "tick", "jump", "not", "#", "1x", "@", "@123456", "-", ";", "é"}
	number := func() string { return []string{"0", "1", "2", "3", "-1", "12", "0x10"}[g.pick(7)] }
	ops := knownOps()
	label := fmt.Sprint("@", g.pick(5))
	var line []string
	switch g.pick(9) {
	case 0:
		line = []string{"function", number(), "params", number(), "dots", fmt.Sprint(g.pick(2)), "regs", number()}
	case 1:
		line = []string{"up", []string{"local", "outer"}[g.pick(2)], number()}
	case 2:
		line = [][]string{{"const", "int", number()}, {"const", "float", []string{"1.5", "nan", "-inf", "7", "-0.0", "5e-324"}[g.pick(6)]}, {"const", "string", []string{`""`, `"a"`, `"; @1 \""`, `"\010"`}[g.pick(4)]}}[g.pick(3)]
	case 3, 4, 5:
		line = []string{number(), listedNames[ops[g.pick(len(ops))]], number(), number(), number()}
	case 6, 7:
		line = []string{number(), listedNames[jumpOps()[g.pick(6)]], number(), label, number()}
	}
	if len(line) == 5 && g.pick(4) == 0 {
		line = slices.Insert(line, 0, fmt.Sprintf("@%d:", g.pick(12)))
	}
	if g.pick(12) == 0 && len(line) > 0 {
		at, word := g.pick(len(line)), any[g.pick(len(any))]
		switch g.pick(4) {
		case 0:
			line = slices.Delete(line, at, at+1)
		case 1:
			line = slices.Insert(line, at, word)
		case 2:
			line = append(line, word)
		default:
			line[at] = word
		}
	}
	blank := []string{" ", " ", "  ", "\t", "\r"}[g.pick(5)]
	return []string{"", " ", "\t"}[g.pick(3)] + strings.Join(line, blank) + []string{"", "", " ", ";", " ; c"}[g.pick(5)]
}

// Listings made of lines at random: the lines of a function most often in their order.
func TestAssembleOfRandomLines(t *testing.T) {
	t.Parallel()
	const count, each = 20000, 300
	chance := words(count*13 + each)
	codes := make([]map[int]int, count)
	var lock sync.Mutex
	most := 0
	inParallel(count, func(i int) {
		g := grower{chance: chance[13*i : 13*i+each]}
		var lines []string
		if g.pick(20) > 0 {
			lines = append(lines, strings.TrimSuffix(plainHead, "\n"))
		}
		for range g.pick(10) {
			lines = append(lines, g.listedLine())
		}
		if g.pick(4) > 0 {
			order := func(line string) int {
				first := strings.Fields(line + " x")[0]
				return slices.Index([]string{"function", "up", "const"}, first) & 3
			}
			slices.SortStableFunc(lines, func(a, b string) int { return order(a) - order(b) })
		}
		text := strings.Join(lines, "\n") + []string{"", "\n"}[g.pick(2)]
		code := checkAssembledByModel(t, text)
		codes[i] = map[int]int{code: 1}
		if got, _ := impl.Assemble(text); len(got.Protos) > 0 {
			lock.Lock()
			most = max(most, len(got.Protos[len(got.Protos)-1].Code))
			lock.Unlock()
		}
	})
	checkCodesCome(t, codes, 50, 0, impl.ListByte, impl.ListWord, impl.ListNumber, impl.ListString, impl.ListPlace, impl.ListTwice, impl.ListLabel, impl.ListMore)
	if most < 5 {
		t.Errorf("the longest code has but %d instructions", most)
	}
}

// Texts of the fragments of source texts, and of any bytes.
func TestAssembleOfRandomTexts(t *testing.T) {
	t.Parallel()
	texts := slices.Concat(randomTexts(3000, 1), randomTexts(3000, 3), randomTexts(3000, 12))
	row := words(8000)
	for i := 0; i+4 <= len(row); i += 4 {
		var text []byte
		for _, w := range row[i : i+4] {
			text = append(text, byte(w>>8), byte(w>>16), byte(w>>24))
		}
		texts = append(texts, string(text), plainHead+"const string \""+string(text)+"\"", plainHead+"1 tick 0 0 0 ;"+string(text))
	}
	codes := make([]map[int]int, len(texts))
	inParallel(len(texts), func(i int) { codes[i] = map[int]int{checkAssembledByModel(t, texts[i]): 1} })
	checkCodesCome(t, codes, 1, 0, impl.ListByte, impl.ListWord, impl.ListString, impl.ListPlace)
}

// All texts of up to two bytes, alone and in the places of words.
func TestAssembleOfShortTexts(t *testing.T) {
	t.Parallel()
	inParallel(256, func(a int) {
		for b := range 257 {
			text := string([]byte{byte(a), byte(b)})
			if b == 256 {
				text = text[:1]
			}
			checkAssembledByModel(t, text)
			checkAssembledByModel(t, plainHead+"const float "+text)
			if a < 128 && b < 128 {
				checkAssembledByModel(t, plainHead+"1 jump 0 @0"+text+" 0\n@0: 1 tick 0 0 0")
				checkAssembledByModel(t, plainHead+"const string \"\\"+text+"\"")
			}
		}
	})
}
