package tests

import (
	"fmt"
	"math"
	"strings"
	"testing"

	"loop.example/g00002/impl"
)

// Chapter 16, the side of reading: what lines and words stand for.

// assembles holds what Assemble makes of a text against a chunk, every field.
func assembles(t *testing.T, text string, want impl.Chunk) {
	t.Helper()
	if got, fault := impl.Assemble(text); fault != (impl.Fault{}) || !sameChunk(got, want) {
		t.Errorf("Assemble(%q) tells %+v and makes\n%s\nnot\n%s", text, fault, codeText(got), codeText(want))
	}
	checkAssembledByModel(t, text)
}

// oneProto is a chunk of a single function.
func oneProto(p impl.Proto) impl.Chunk { return impl.Chunk{Protos: []impl.Proto{p}} }

func TestAssembleNothing(t *testing.T) {
	for _, text := range []string{"", "\n", "\n\n\n", " ", "\t\r ", " \n\t\n\r\n", ";", "; nothing", ";\n;\n", "  ; x \" @ # \x00\xff\n\r\n;;;", "\r", ";\"\n;'"} {
		assembles(t, text, impl.Chunk{})
	}
}

func TestAssembleFunctions(t *testing.T) {
	assembles(t, "function 1 params 2 dots 1 regs 3\n", oneProto(impl.Proto{Line: 1, Params: 2, Dots: true, Regs: 3}))
	assembles(t, "function 4 params 5 dots 0 regs 6\n", oneProto(impl.Proto{Line: 4, Params: 5, Regs: 6}))
	assembles(t, "function 1 params 2 dots 1 regs 3\nfunction 4 params 5 dots 0 regs 6\nfunction 7 params 8 dots 1 regs 9", impl.Chunk{Protos: []impl.Proto{
		{Line: 1, Params: 2, Dots: true, Regs: 3}, {Line: 4, Params: 5, Regs: 6}, {Line: 7, Params: 8, Dots: true, Regs: 9}}})
	assembles(t, plainHead+plainHead, impl.Chunk{Protos: make([]impl.Proto, 2)})
}

func TestAssembleUpvalues(t *testing.T) {
	assembles(t, plainHead+"up local 1\nup outer 2\nup outer 2\nup local 0\n", oneProto(impl.Proto{Ups: []impl.Up{{FromLocal: true, Index: 1}, {Index: 2}, {Index: 2}, {FromLocal: true}}}))
	assembles(t, plainHead+"up local 1\n"+plainHead+"up outer 2", impl.Chunk{Protos: []impl.Proto{{Ups: []impl.Up{{FromLocal: true, Index: 1}}}, {Ups: []impl.Up{{Index: 2}}}}})
}

func TestAssembleConstants(t *testing.T) {
	assembles(t, plainHead+"const int 1\nconst float 2\nconst string \"3\"\nconst int 1\n", holding(
		impl.Const{Kind: impl.NodeInt, Int: 1}, impl.Const{Kind: impl.NodeFloat, Bits: 0x4000000000000000}, impl.Const{Kind: impl.NodeString, Text: "3"}, impl.Const{Kind: impl.NodeInt, Int: 1}))
	assembles(t, plainHead+"up local 5\nconst string \"\"\n", oneProto(impl.Proto{Ups: []impl.Up{{FromLocal: true, Index: 5}}, Consts: []impl.Const{{Kind: impl.NodeString}}}))
}

// Each instruction by its name, alone and with a label ahead.
func TestAssembleInstructions(t *testing.T) {
	for _, op := range knownOps() {
		name := listedNames[op]
		for _, ahead := range []string{"", "@5: ", "@5:\t\t", "  @99999:\r", "@00000: "} {
			assembles(t, plainHead+ahead+"0 "+name+" 1 2 3", coding(impl.Instr{Op: op, A: 1, B: 2, C: 3}))
			assembles(t, plainHead+ahead+"0 "+name+" -1 -2 -3\n1 "+name+" 0 0 0\n", coding(impl.Instr{Op: op, A: -1, B: -2, C: -3}, impl.Instr{Op: op}))
		}
	}
	// Lines stand with their instructions.
	chunk := coding(impl.Instr{Op: impl.InsTick}, impl.Instr{Op: impl.InsReturn, B: 1})
	chunk.Protos[0].Lines = []int{70, -8}
	assembles(t, plainHead+"70 tick 0 0 0\n-8 return 0 1 0", chunk)
	// Names that are words of the other lines, too.
	assembles(t, plainHead+"const int 5\n0 const 0 0 0\n1 int 0 5 0\n2 dots 0 1 0\n3 nil 0 1 0", oneProto(impl.Proto{Consts: []impl.Const{{Kind: impl.NodeInt, Int: 5}},
		Code: []impl.Instr{{Op: impl.InsConst}, {Op: impl.InsInt, B: 5}, {Op: impl.InsDots, B: 1}, {Op: impl.InsNil, B: 1}}, Lines: []int{0, 1, 2, 3}}))
}

// The same listing with blanks, comments and empty lines of all kinds.
func TestAssembleBlanks(t *testing.T) {
	const text = "function 3 params 1 dots 0 regs 2\n  up local 4\n  up outer 1\n  const int -5\n  const float 1.5\n  const string \"a\\\" ;\\010\"\n@0: 3 tick 0 0 0\n    3 jumpif 0 @1 0\n    4 jump 0 @0 0\n@1: 4 idiv 1 1 1\n    6 return 0 1 0\n"
	want, fault := impl.Assemble(text)
	if again, _ := impl.List(want); fault.Code != 0 || again != text || want.Protos[0].Consts[2].Text != "a\" ;\n" {
		t.Fatalf("%+v %s", fault, again)
	}
	// What is in the string stays as it is.
	const inString = " ;\\010"
	bare := strings.ReplaceAll(text, inString, "\x01")
	for name, changed := range map[string]string{
		"no last newline": strings.TrimSuffix(bare, "\n"), "more newlines": bare + "\n\n", "empty lines": strings.ReplaceAll(bare, "\n", "\n\n \n"), "newlines ahead": "\n\n" + bare,
		"no indents": strings.ReplaceAll(strings.ReplaceAll(bare, "\n    ", "\n"), "\n  ", "\n"), "tabs": strings.ReplaceAll(bare, " ", "\t"), "returns": strings.ReplaceAll(bare, " ", "\r"),
		"all blanks": strings.ReplaceAll(bare, " ", " \t\r  "), "ends of two bytes": strings.ReplaceAll(bare, "\n", "\r\n"), "blanks at ends": strings.ReplaceAll(bare, "\n", " \t\n"),
		"comments": strings.ReplaceAll(bare, "\n", " ; c \" ' @ # \x00\xff \\ 7\n"), "comments without blanks": strings.ReplaceAll(bare, "\n", ";;c\n"),
		"lines of comments": strings.ReplaceAll(bare, "\n", "\n;c\n  ; function 1\n"), "a comment at the end": bare + "; the end", "a comment for a newline": strings.TrimSuffix(bare, "\n") + ";",
		"other labels": strings.ReplaceAll(strings.ReplaceAll(bare, "@0", "@77"), "@1", "@0"), "labels with zeros": strings.ReplaceAll(bare, "@0:", "@00000:"),
	} {
		changed = strings.ReplaceAll(changed, "\x01", inString)
		got, fault := impl.Assemble(changed)
		if fault.Code != 0 || !sameChunk(got, want) {
			t.Errorf("%s: %q: %+v\n%s", name, changed, fault, codeText(got))
		}
		checkAssembledByModel(t, changed)
	}
}

// integerTexts are words that are integers.
var integerTexts = map[string]int{
	"0": 0, "1": 1, "-1": -1, "007": 7, "-007": -7, "-0": 0, "00": 0, "32767": 32767, "2147483647": math.MaxInt32, "2147483648": math.MaxInt32 + 1, "-2147483648": math.MinInt32,
	"9223372036854775807": math.MaxInt, "-9223372036854775807": -math.MaxInt, "-9223372036854775808": math.MinInt, "-09223372036854775808": math.MinInt, "09223372036854775807": math.MaxInt,
	"0x0": 0, "0x10": 16, "0XfF": 255, "0xDEADbeef": 0xDEADBEEF, "-0x1": -1, "-0X10": -16, "0x7fffffffffffffff": math.MaxInt, "0x8000000000000000": math.MinInt, "-0x8000000000000000": math.MinInt,
	"0xffffffffffffffff": -1, "-0xffffffffffffffff": 1, "0x1ffffffffffffffff": -1, "0x10000000000000000": 0, "0x0000000000000000000000001": 1,
	strings.Repeat("0", 99) + "5": 5, "-" + strings.Repeat("0", 99) + "5": -5, "0x" + strings.Repeat("0", 97) + "b": 11, "-0x" + strings.Repeat("f", 98): 1,
}

// floatTexts are words that are numbers and no integers.
var floatTexts = map[string]float64{
	"0.0": 0, "-0.0": math.Copysign(0, -1), "1.0": 1, "1.": 1, ".5": 0.5, "-.5": -0.5, "-1.": -1, "1e2": 100, "1E2": 100, "1e+2": 100, "1e-2": 0.01, "-1e2": -100, "0e0": 0, "-0e0": math.Copysign(0, -1),
	"1.5e3": 1500, "9223372036854775808": 1 << 63, "-9223372036854775809": -(1 << 63), "99999999999999999999": 1e20, "1e308": 1e308, "-1e308": -1e308, "1.7976931348623157e308": math.MaxFloat64,
	"5e-324": 5e-324, "1e-999": 0, "-1e-999": math.Copysign(0, -1), "inf": math.Inf(1), "-inf": math.Inf(-1), "nan": math.NaN(), "1e000": 1, "0.1": 0.1, "100000000000000000000000000": 1e26,
	strings.Repeat("9", 100): 1e100, "-" + strings.Repeat("9", 100): -1e100, strings.Repeat("0", 98) + "1.": 1,
}

// numberPlaces are listings with the mark # at each place where an integer stands, and what they come to if that is n.
func numberPlaces(n int) map[string]impl.Chunk {
	at := func(p impl.Proto) impl.Chunk { return oneProto(p) }
	code := func(line, a, b, c int) impl.Chunk {
		return at(impl.Proto{Code: []impl.Instr{{Op: impl.InsJump, A: a, B: b, C: c}}, Lines: []int{line}})
	}
	return map[string]impl.Chunk{
		"function # params 0 dots 0 regs 0":           at(impl.Proto{Line: n}),
		"function 0 params # dots 0 regs 0":           at(impl.Proto{Params: n}),
		"function 0 params 0 dots 0 regs #":           at(impl.Proto{Regs: n}),
		plainHead + "up local #":                      at(impl.Proto{Ups: []impl.Up{{FromLocal: true, Index: n}}}),
		plainHead + "up outer #\n":                    at(impl.Proto{Ups: []impl.Up{{Index: n}}}),
		plainHead + "const int #":                     at(impl.Proto{Consts: []impl.Const{{Kind: impl.NodeInt, Int: n}}}),
		plainHead + "# jump 0 0 0":                    code(n, 0, 0, 0),
		plainHead + "@1: # jump 0 0 0":                code(n, 0, 0, 0),
		plainHead + "0 jump # 0 0":                    code(0, n, 0, 0),
		plainHead + "0 jump 0 # 0":                    code(0, 0, n, 0),
		plainHead + "0 jump 0 0 #;":                   code(0, 0, 0, n),
		plainHead + "@1: 0 jump # # # ; of one label": code(0, n, n, n),
	}
}

func TestAssembleIntegers(t *testing.T) {
	for word, n := range integerTexts {
		for place, want := range numberPlaces(n) {
			assembles(t, strings.ReplaceAll(place, "#", word), want)
		}
	}
	for word, dots := range map[string]bool{"0": false, "1": true, "00": false, "01": true, "0x0": false, "0X1": true, "-0": false, "0x10000000000000001": true, "-0xffffffffffffffff": true} {
		assembles(t, "function 0 params 0 dots "+word+" regs 0", oneProto(impl.Proto{Dots: dots}))
	}
}

func TestAssembleFloats(t *testing.T) {
	for word, n := range integerTexts {
		assembles(t, plainHead+"const float "+word, holding(impl.Const{Kind: impl.NodeFloat, Bits: math.Float64bits(float64(n))}))
	}
	for word, f := range floatTexts {
		assembles(t, plainHead+"const float "+word+";", holding(impl.Const{Kind: impl.NodeFloat, Bits: floatNumber(f).Bits}))
	}
}

func TestAssembleStrings(t *testing.T) {
	for written, text := range map[string]string{
		`""`: "", `"a"`: "a", `"a b"`: "a b", `" "`: " ", `";"`: ";", `"; c"`: "; c", `"@1"`: "@1", `"'"`: "'", `"\'"`: "'", `"\""`: `"`, `"\\"`: `\`, `"\a\b\t\n\v\f\r"`: "\a\b\t\n\v\f\r",
		`"\0"`: "\x00", `"\00"`: "\x00", `"\000"`: "\x00", `"\0000"`: "\x000", `"\7a"`: "\aa", `"\65\066\67"`: "ABC", `"\255"`: "\xff", `"\25a"`: "\x19a", `"\x41"`: "A", `"\xfF\x0a"`: "\xff\n",
		"\"\t\r\"": "\t\r", "\"\x00\x01\x7f\x80\xff\"": "\x00\x01\x7f\x80\xff", `"é"`: "é", `"\\n"`: `\n`, `"\\\""`: `\"`, `"--[[ x"`: "--[[ x", `"function 1"`: "function 1", `"nan"`: "nan",
	} {
		for _, behind := range []string{"", "\n", ";", " ; c", "\t\n", "\r\n"} {
			assembles(t, plainHead+"const string "+written+behind, holding(impl.Const{Kind: impl.NodeString, Text: text}))
		}
		assembles(t, plainHead+"const string\t"+written+"\nconst string "+written, holding(impl.Const{Kind: impl.NodeString, Text: text}, impl.Const{Kind: impl.NodeString, Text: text}))
	}
	// Every byte that stands for itself, and every byte by each kind of escape.
	for b := range 256 {
		plain := string([]byte{byte(b)})
		want := holding(impl.Const{Kind: impl.NodeString, Text: plain})
		if b != '"' && b != '\\' && b != '\n' {
			assembles(t, plainHead+"const string \""+plain+"\"", want)
		}
		for _, form := range []string{`\%d`, `\%03d`, `\x%02x`, `\x%02X`} {
			assembles(t, plainHead+"const string \""+fmt.Sprintf(form, b)+"\"", want)
		}
	}
	// More bytes than a string of the language may have.
	long := times("x", 200000)
	got, fault := impl.Assemble(plainHead + "const string \"" + long + "\"")
	if fault.Code != 0 || !sameChunk(got, holding(impl.Const{Kind: impl.NodeString, Text: long})) {
		t.Errorf("%+v", fault)
	}
	checkNotListed(t, "a long string", got, impl.ChunkBytes)
}

// A string ends with its sign, whatever comes behind it; a word that is none ends at a blank, a comment or the end of the line.
func TestAssembleWordsTogether(t *testing.T) {
	checkListMarked(t, impl.ListMore, plainHead, `const string "a"!"b"`, `const string "a"!b`, `const string "a"!1`, `const string "a"!@1`, `const string ""!"" ""`)
	checkListMarked(t, impl.ListByte, plainHead, `const !string"a"`, `!const"x" string "a"`, `const string !a"b"`, `const string "a"!b"`, `const int !1"a"`, `1 jump 0 !@1"a" 0`)
	checkListMarked(t, impl.ListString, plainHead, `const string "a"!"b`, `const string "a"!"`, `const string ""!"`)
}

func TestAssembleLabels(t *testing.T) {
	jump := func(b int) impl.Instr { return impl.Instr{Op: impl.InsJump, B: b} }
	tick := impl.Instr{Op: impl.InsTick}
	for _, op := range jumpOps() {
		name := listedNames[op]
		i := func(b int) impl.Instr { return impl.Instr{Op: op, A: 2, B: b, C: 3} }
		assembles(t, plainHead+"@1: 0 "+name+" 2 @1 3", coding(i(0)))
		assembles(t, plainHead+"@1: 0 tick 0 0 0\n1 "+name+" 2 @1 3", coding(tick, i(0)))
		assembles(t, plainHead+"0 "+name+" 2 @1 3\n1 "+name+" 2 @1 3\n@1: 2 tick 0 0 0\n3 "+name+" 2 @1 3", coding(i(2), i(2), tick, i(2)))
		// A number beside labels.
		assembles(t, plainHead+"@7: 0 "+name+" 2 1 3\n@1: 1 "+name+" 2 @7 3", coding(i(1), i(0)))
	}
	// By their numbers, whatever zeros stand ahead.
	assembles(t, plainHead+"@007: 0 jump 0 @7 0\n1 jump 0 @00007 0\n@0: 2 jump 0 @00000 0\n3 jump 0 @07 0", coding(jump(0), jump(0), jump(2), jump(0)))
	assembles(t, plainHead+"0 jump 0 @99999 0\n@99999: 1 jump 0 @9999 0\n@9999: 2 jump 0 @09999 0", coding(jump(1), jump(2), jump(2)))
	// Set and never used, and set in any order.
	assembles(t, plainHead+"@5: 0 tick 0 0 0\n@3: 1 jump 0 @4 0\n@4: 2 jump 0 @3 0", coding(tick, jump(2), jump(1)))
	// Each function has its own.
	assembles(t, plainHead+"@1: 0 jump 0 @1 0\n"+plainHead+"0 jump 0 @1 0\n@1: 1 tick 0 0 0\n"+plainHead+"@1: 0 tick 0 0 0", impl.Chunk{Protos: []impl.Proto{
		coding(jump(0)).Protos[0], coding(jump(1), tick).Protos[0], coding(tick).Protos[0]}})
}

// What the numbers say may be wrong for WriteChunk and Verify.
func TestAssembleLooksAtNothingElse(t *testing.T) {
	got, fault := impl.Assemble("function -1 params 256 dots 0 regs 9999\nup local -7\nconst int 1\n-5 jump 1000 -1000 5000000000\n1 const 0 99 0")
	want := oneProto(impl.Proto{Line: -1, Params: 256, Regs: 9999, Ups: []impl.Up{{FromLocal: true, Index: -7}}, Consts: []impl.Const{{Kind: impl.NodeInt, Int: 1}},
		Code: []impl.Instr{{Op: impl.InsJump, A: 1000, B: -1000, C: 5000000000}, {Op: impl.InsConst, B: 99}}, Lines: []int{-5, 1}})
	if fault.Code != 0 || !sameChunk(got, want) {
		t.Errorf("%+v\n%s", fault, codeText(got))
	}
	checkNotListed(t, "wrong numbers", got, impl.ChunkBytes)
	// More of all than a chunk may have.
	text := times(plainHead, 2000) + times("up local 1\n", 300) + times("const int 1\n", 5000) + times("1 tick 0 0 0\n", 9000)
	got, fault = impl.Assemble(text)
	last := len(got.Protos) - 1
	if fault.Code != 0 || last != 1999 || len(got.Protos[last].Ups) != 300 || len(got.Protos[last].Consts) != 5000 || len(got.Protos[last].Code) != 9000 {
		t.Errorf("%+v, %d functions", fault, last+1)
	}
	checkAssembledByModel(t, text)
}

func TestAssembleAtItsSize(t *testing.T) {
	t.Parallel()
	const line = "1 tick 0 0 0\n"
	count := (impl.MaxListing - len(plainHead)) / len(line)
	text := plainHead + times(line, count)
	for _, fill := range []string{"\n", " ", ";", "; ", "\r"} {
		full := text + times(fill, impl.MaxListing)
		full = full[:impl.MaxListing]
		got, fault := impl.Assemble(full)
		if fault.Code != 0 || len(got.Protos) != 1 || len(got.Protos[0].Code) != count {
			t.Errorf("%+v", fault)
		}
		checkAssembledByModel(t, full)
		for _, more := range []string{" ", "\n", "x", times(" ", 1000), times(line, 100000)} {
			got, fault := impl.Assemble(full + more)
			if fault != (impl.Fault{Code: impl.ListLarge, Line: 1}) || len(got.Protos) != 0 {
				t.Errorf("%+v", fault)
			}
			checkAssembledByModel(t, full+more)
		}
	}
	// Whatever stands in it, and at its first byte.
	for _, full := range []string{times("#", impl.MaxListing), times("\"", impl.MaxListing), times("1", impl.MaxListing), times("a", impl.MaxListing), times("@", impl.MaxListing), times("1 ", impl.MaxListing/2),
		times("\n", impl.MaxListing), times(" ", impl.MaxListing), times("\\", impl.MaxListing), "\"" + times("a", impl.MaxListing-1), times("\x80", impl.MaxListing), times("-", impl.MaxListing)} {
		checkAssembledByModel(t, full)
		if got, fault := impl.Assemble(full + "\n"); fault != (impl.Fault{Code: impl.ListLarge, Line: 1}) || len(got.Protos) != 0 {
			t.Errorf("%+v", fault)
		}
	}
	long := plainHead + "const string \""
	long += times("a", impl.MaxListing-len(long)-1) + "\""
	if got, fault := impl.Assemble(long); fault.Code != 0 || len(got.Protos[0].Consts[0].Text) != impl.MaxListing-len(plainHead)-len("const string \"\"") {
		t.Errorf("%+v", fault)
	}
}
