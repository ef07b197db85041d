package tests

import (
	"fmt"
	"slices"
	"strings"
	"sync"
	"testing"

	"loop.example/g00002/impl"
)

// Chapter 1, for listings.

// listedChunks are chunks of several kinds, most of which can be listed.
func listedChunks(t *testing.T) []impl.Chunk {
	t.Helper()
	chunks := append(listableChunks(100), jumpyChunks(t, 50)...)
	for _, source := range slices.Concat(modestTexts(30), heapTexts(10), alone) {
		if chunk, fault := impl.Compile(source); fault.Code == 0 {
			chunks = append(chunks, chunk)
		}
	}
	for _, chunk := range unsafeChunks(t) {
		chunks = append(chunks, chunk)
	}
	return append(chunks, impl.Chunk{}, impl.Chunk{Protos: []impl.Proto{fullProto(), {Regs: 256}}}, impl.Chunk{Protos: []impl.Proto{fullProto(), fullProto()}})
}

// The chunk that is handed in stays as it was, what lies behind the ends of its lists too; the same call gives the same again.
func TestListWritesIntoNoArgument(t *testing.T) {
	t.Parallel()
	for _, chunk := range listedChunks(t) {
		roomy, told := spacious(chunk)
		before := told()
		first, code := impl.List(roomy)
		second, again := impl.List(roomy)
		if !slices.EqualFunc(told(), before, sameProto) {
			t.Errorf("%.3000s", codeText(chunk))
		}
		if plain, _ := impl.List(chunk); first != second || code != again || plain != first {
			t.Errorf("%d and then %d; of\n%.3000s comes\n%.3000s and then\n%.3000s", code, again, codeText(chunk), first, second)
		}
	}
}

func TestListAnswersOwnTheirMemory(t *testing.T) {
	t.Parallel()
	for _, chunk := range listedChunks(t) {
		argument := copyChunk(chunk)
		first, _ := impl.List(argument)
		second, _ := impl.List(argument)
		apart(t, "a listing", first, second)
		for _, p := range argument.Protos {
			for _, k := range p.Consts {
				apart(t, "a listing", first, k.Text)
			}
		}
		want := strings.Clone(first)
		spoil(argument)
		if first != want {
			t.Errorf("%.3000s", codeText(chunk))
		}
	}
}

func TestAssembleAnswersOwnTheirMemory(t *testing.T) {
	t.Parallel()
	texts := []string{plainHead + "const string \"abc\"\nconst string \"abc\"\nconst string \"a\\98c\"\nup", plainHead + "const string \"abc\"\nconst string \"abc\"\nconst string \"a\\98c\"\n1 tick 0 0 0", "", plainHead + plainHead}
	for _, chunk := range listedChunks(t) {
		text, _ := impl.List(chunk)
		texts = append(texts, text)
	}
	for _, text := range texts {
		first, fault := impl.Assemble(text)
		second, again := impl.Assemble(text)
		want := codeText(first)
		if fault != again || codeText(second) != want {
			t.Errorf("%s", text)
		}
		for n, p := range first.Protos {
			for i, k := range p.Consts {
				// A string of one byte that is made anew is always the same one in Go.
				if len(k.Text) < 2 {
					continue
				}
				apart(t, "a constant", k.Text, text)
				for _, other := range slices.Concat(second.Protos[n].Consts, p.Consts[:i]) {
					apart(t, "a constant", k.Text, other.Text)
				}
			}
		}
		spoil(second)
		if codeText(first) != want {
			t.Errorf("%s", text)
		}
		// A list that is added to leaves all others as they are.
		for n := range first.Protos {
			p := first.Protos[n]
			_, _ = append(p.Code, impl.Instr{Op: 99}), append(p.Lines, 99)
			_, _ = append(p.Ups, impl.Up{Index: 99}), append(p.Consts, impl.Const{Kind: 99})
			if codeText(first) != want {
				t.Errorf("%s", text)
			}
		}
		checkOwnLists(t, first)
	}
}

// Calls at the same time don't touch each other.
func TestListingsAtTheSameTime(t *testing.T) {
	t.Parallel()
	chunks := listedChunks(t)
	texts, codes := make([]string, len(chunks)), make([]int, len(chunks))
	for i, chunk := range chunks {
		texts[i], codes[i] = impl.List(chunk)
	}
	var group sync.WaitGroup
	for w := range 8 {
		group.Add(1)
		go func() {
			defer group.Done()
			for i := range chunks {
				i = (i + w*7) % len(chunks)
				if text, code := impl.List(chunks[i]); text != texts[i] || code != codes[i] {
					t.Errorf("%d, not %d, and\n%.3000s", code, codes[i], text)
				}
				if got, fault := impl.Assemble(texts[i]); fault.Code != 0 || codes[i] == 0 && !sameChunk(got, chunks[i]) {
					t.Errorf("%+v and\n%.3000s", fault, codeText(got))
				}
			}
		}()
	}
	group.Wait()
}

// An answer comes soon at whatever is as long as it may be: labels that are set and used, words, lines, functions, strings.
func TestAssembleLongest(t *testing.T) {
	t.Parallel()
	const room = impl.MaxListing - 200
	upTo := func(head, part string, count int) string {
		return head + times(part, min(count, (room-len(head))/len(part)))
	}
	used := upTo(plainHead, "1 jump 0 @99999 0\n", room)
	var set strings.Builder
	set.WriteString(plainHead)
	for n := 0; set.Len() < room; n++ {
		fmt.Fprintf(&set, "@%d: 1 jump 0 @%d 0\n", n, n/2)
	}
	for name, text := range map[string]string{
		"one label used": used + "@99999: 1 tick 0 0 0", "one label not set": used, "labels set": set.String(), "functions": upTo("", plainHead, room), "lines": upTo("", "\n", room), "comments": upTo("", ";\n", room),
		"words": upTo(plainHead, "1 ", room), "strings": upTo(plainHead, "\"\"", room), "a string": upTo(plainHead+"const string \"", "\\\\", room) + "\"", "a number": upTo("", "1", room), "a name": upTo("", "a", room),
		"upvalues": upTo(plainHead, "up local 1\n", room), "constants": upTo(plainHead, "const int 1\n", room), "a signed number": upTo("-", "1", room), "blanks": upTo("", " \t\r", room), "a label": upTo("@", "1", room),
	} {
		if len(text) < room-100 || len(text) > impl.MaxListing {
			t.Errorf("%s: %d bytes", name, len(text))
		}
		checkAssembledByModel(t, text)
	}
}
