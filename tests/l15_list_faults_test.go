package tests

import (
	"fmt"
	"slices"
	"strings"
	"testing"

	"loop.example/g00002/impl"
)

// Chapter 16, the faults of listings: the first one with its place, and nothing beside it.

// checkListFault looks at a text with a fault.
func checkListFault(t *testing.T, text string, want impl.Fault) {
	t.Helper()
	if got, fault := impl.Assemble(text); fault != want || len(got.Protos) != 0 {
		t.Errorf("Assemble(%.2000q) tells %+v and makes %d functions, want %+v", text, fault, len(got.Protos), want)
	}
	checkAssembledByModel(t, text)
}

// checkListMarked looks at texts with a fault behind a head, that behind others, and them with more behind them. The fault is
// at the mark !, which isn't of the text.
func checkListMarked(t *testing.T, code int, head string, texts ...string) {
	t.Helper()
	before := []string{"", "\n", " ; c\n\t\r\n"}
	if strings.HasPrefix(head, "function") {
		before = append(before, "function 9 params 9 dots 1 regs 9\nup local 9\nconst int 9\n@1: 9 jump 9 @1 9\n@2: 9 tick 0 0 0\n")
	}
	for _, marked := range texts {
		ahead, behind, found := strings.Cut(marked, "!")
		if !found {
			t.Errorf("%q has no mark", marked)
		}
		for _, first := range before {
			whole := first + head + ahead
			for _, last := range []string{"", "\n", "\n#\n", " \n", "\n" + plainHead} {
				if code == impl.ListLabel && last != "" && last != "\n" && last != "\n"+plainHead {
					continue
				}
				checkListFault(t, whole+behind+last, impl.Fault{Code: code, Line: 1 + strings.Count(whole, "\n"), At: len(whole)})
			}
		}
	}
}

// eachPlace puts words at each place of a line of each form, where they are looked at as words alone.
func eachPlace(words ...string) []string {
	var texts []string
	for _, word := range words {
		word = strings.ReplaceAll(word, "!", "")
		texts = append(texts, "!"+word, "1 !"+word, "1 tick 0 0 0 !"+word, "@1: !"+word+" 0", "const string \"a\" !"+word, "function !"+word, "\t!"+word+" ; c", "up local 1\r!"+word, "x y z !"+word, "\"\"!"+word)
	}
	return texts
}

func TestAssembleFaultByte(t *testing.T) {
	// Bytes with which no word can begin, at all places.
	for b := range 256 {
		text := string([]byte{byte(b)})
		switch {
		case strings.Contains("\t\n\r ;\"@-._!", text), text >= "0" && text <= "9", text >= "a" && text <= "z", text >= "A" && text <= "Z":
			continue
		}
		checkListMarked(t, impl.ListByte, plainHead, "!"+text, "1 tick 0 !"+text, "1 tick 0 0 0 !"+text, "!"+text+"1 tick 0 0 0", "const string \"a\"!"+text)
		checkListMarked(t, impl.ListByte, "", "!"+text)
		// Within a word it makes the word none.
		checkListMarked(t, impl.ListByte, plainHead, "1 !tick"+text+" 0 0 0", "!1"+text+" tick 0 0 0", "1 jump 0 !@1"+text+"1 0", "!up"+text)
	}
	checkListFault(t, plainHead+"1 !", impl.Fault{Code: impl.ListByte, Line: 2, At: len(plainHead) + 2})
	// Words that are none of these.
	checkListMarked(t, impl.ListByte, plainHead, eachPlace("-", "--1", "+1", "-+1", ".", "..", "-.", "1x", "1_", "0x", "0X", "0xg", "-0x", "0x1.5", "0x1p3", "1e", "1e+", "1e1234", "1.2.3", "1e5.", "1e5e5", "1a", "--",
		"-inf1", "-nan", "+inf", "-infinity", "-x", "-tick", "1e309", "-1e309", "1.8e308", "1e999", "@", "@:", "@x", "@1x", "@1:x", "@1::", "@-1", "@+1", "@1.", "@0x1", "@123456", "@000001", "@123456:", "@000000:",
		"@ ", "@: 1", ".a", "a.b", "a:", "tick:", "5:", "a-b", "a,", "1,2", "tick,", "a\"b\"", "1\"\"", "@1\"a\"", "a'b'", "é", "aé", "a\x00", "a\xff", "a\v1", "1\f2", "\vtick", "_-", "a@1", "1@1", "0b1", "1__0", "x=1", "[1]",
		times("0", 101), times("9", 101), "-"+times("9", 101), "0x"+times("0", 99), "1."+times("0", 99), times("x", 300)+"-")...)
}

func TestAssembleFaultString(t *testing.T) {
	checkListMarked(t, impl.ListString, plainHead, eachPlace("\"", "\"a", "\"a b", "\"a ; c", "\"\\\"", "\"\\", "\"a\\", "\"\\\\\\\"", "\"\n\"", "\"a\nb\"", "\"\\\n\"", "\"a\\\n\"", "\"a\\\nb\"")...)
	checkListMarked(t, impl.ListString, plainHead, eachPlace(`"\q"`, `"\x"`, `"\x4"`, `"\x4g"`, `"\xg4"`, `"\x 41"`, `"\256"`, `"\999"`, `"\300a"`, `"a\z"`, `"\ "`, `"\u{41}"`, `"\N"`, `"\-1"`, `"ab\qcd" ; "`, `"\;"`, `"\x\""`, "\"\\\r\"", "\"\\\t\"")...)
	// Every byte behind a backslash that isn't one of an escape.
	for b := range 256 {
		text := string([]byte{byte(b)})
		if strings.Contains("abtnvfr\\\"'x0123456789\n!", text) {
			continue
		}
		checkListMarked(t, impl.ListString, plainHead, "const string !\"a\\"+text+"b\"", "const string !\"\\"+text)
	}
	checkListMarked(t, impl.ListString, "", "!\"", "x !\"\\q\"")
}

// A word that lacks, at each place of each line, with what may be behind the last word.
func TestAssembleFaultWordLacks(t *testing.T) {
	for _, line := range []string{"function 1 params 0 dots 1 regs 1", "up local 0", "up outer 0", "const int 1", "const float 1.5", "const string \"a\"", "1 tick 0 0 0", "1 jump 0 @1 0", "@1: 1 jump 0 @1 0", "@1: 1 tick 0 0 0"} {
		parts := strings.Fields(line)
		for n := 1; n < len(parts); n++ {
			first := strings.Join(parts[:n], " ")
			checkListMarked(t, impl.ListWord, plainHead, first+"!", first+"! ", first+"!\t\r", first+"!;", first+"! ; c", first+"!;"+strings.Join(parts[n:], " "), "  "+first+"!   ; "+line, strings.Join(parts[:n], " \t ")+"!")
		}
	}
	for _, line := range []string{"function", "function 1", "function 1 params 0 dots 1 regs"} {
		checkListMarked(t, impl.ListWord, "", line+"!", line+"! ; c")
	}
}

// Words of another kind, or another name than the one that must stand there, at each place of each line.
func TestAssembleFaultWordWrong(t *testing.T) {
	string1, label, setting, number, name := "\"a\"", "@1", "@1:", "7", "x"
	for _, c := range []struct {
		line  string // with the place marked by #
		wrong []string
	}{
		{"#", []string{string1, label, name, "tick", "Function", "functions", "local", "params", "constant", "UP", "_", "jump"}},
		{"# 1 params 0 dots 1 regs 1", []string{string1, label, name, "proc", "FUNCTION"}},
		{"function # params 0 dots 1 regs 1", []string{string1, label, setting, name, "params"}},
		{"function 1 # 0 dots 1 regs 1", []string{string1, label, setting, number, name, "nan", "inf", "-inf", "param", "Params", "dots", "regs"}},
		{"function 1 params # dots 1 regs 1", []string{string1, label, setting, name, "dots"}},
		{"function 1 params 0 # 1 regs 1", []string{string1, label, setting, number, name, "nan", "params", "regs", "dot"}},
		{"function 1 params 0 dots # regs 1", []string{string1, label, setting, name, "true", "regs"}},
		{"function 1 params 0 dots 1 # 1", []string{string1, label, setting, number, name, "inf", "reg", "dots"}},
		{"function 1 params 0 dots 1 regs #", []string{string1, label, setting, name}},
		{"up # 1", []string{string1, label, setting, number, name, "nan", "Local", "register", "up", "global"}},
		{"up local #", []string{string1, label, setting, name, "local"}},
		{"up outer #", []string{string1, label, setting, name, "outer"}},
		{"const # 1", []string{string1, label, setting, number, name, "nan", "inf", "integer", "Int", "nil", "const", "bool"}},
		{"const int #", []string{string1, label, setting, name, "int"}},
		{"const float #", []string{string1, label, setting, name, "float", "Inf", "NaN", "infinity"}},
		{"const string #", []string{label, setting, number, name, "nan", "1.5", "a"}},
		{"@5: # tick 0 0 0", []string{string1, label, setting, name, "@6:", "up", "const", "function", "tick"}},
		{"1 # 0 0 0", []string{string1, label, setting, number, name, "nan", "inf", "-inf", "1.5", "tock", "Tick", "TICK", "ticks", "function", "up", "local", "bitnot", "unm", "band", "op1", "float", "string"}},
		{"@5: 1 # 0 0 0", []string{string1, label, setting, number, name, "tock"}},
		{"1 tick # 0 0", []string{string1, label, setting, name, "tick"}},
		{"1 jump # 0 0", []string{string1, label, setting, name}},
		{"1 tick 0 # 0", []string{string1, label, setting, name}},
		{"1 jump 0 # 0", []string{string1, setting, name, "jump"}},
		{"1 tick 0 0 #", []string{string1, label, setting, name}},
		{"1 jump 0 @5 #", []string{string1, label, setting, name, "@5"}},
	} {
		for _, word := range c.wrong {
			checkListMarked(t, impl.ListWord, plainHead, strings.Replace(c.line, "#", "!"+word, 1), strings.Replace(c.line, "#", "!"+word+" z 1.5 \"\"", 1))
		}
	}
	checkListMarked(t, impl.ListWord, "", "!tick 0 0 0", "!\"\"", "!@1", "!x", "function !x", "!x 1.5 \"\"")
	// A label as B of each instruction that can't jump, set or not.
	for _, op := range knownOps() {
		if !modelJumps(op) {
			checkListMarked(t, impl.ListWord, plainHead, "1 "+listedNames[op]+" 0 !@1 0", "@1: 1 "+listedNames[op]+" 0 !@1 0", "@1: 1 tick 0 0 0\n1 "+listedNames[op]+" 0 !@1")
			continue
		}
		checkListMarked(t, impl.ListWord, plainHead, "1 "+listedNames[op]+" !@1 0 0", "1 "+listedNames[op]+" 0 0 !@1", "1 "+listedNames[op]+" 0 !@1: 0")
	}
}

// Numbers that are no integers where one is wanted, and D that isn't 0 or 1.
func TestAssembleFaultNumber(t *testing.T) {
	for word := range floatTexts {
		for place := range numberPlaces(0) {
			head, line := "", strings.TrimSuffix(place, "\n")
			if rest, ok := strings.CutPrefix(line, plainHead); ok {
				head, line = plainHead, rest
			}
			marked := strings.Replace(line, "#", "!"+word, 1)
			checkListMarked(t, impl.ListNumber, head, strings.ReplaceAll(marked, "#", word))
		}
		checkListMarked(t, impl.ListNumber, "", "function 1 params 0 dots !"+word+" regs 1")
		checkListMarked(t, impl.ListNumber, plainHead, "const int !"+word+" 7", "1 move 0 !"+word+" x", "!"+word, "@1: !"+word, "function 1 params 0 dots !"+word)
	}
	for _, word := range []string{"2", "-1", "10", "256", "0x2", "0x10", "-0x1", "9223372036854775807", "-9223372036854775808", "0xffffffffffffffff", "11", "-2"} {
		checkListMarked(t, impl.ListNumber, "", "function 1 params 0 dots !"+word+" regs 1", "function 1 params 0 dots !"+word, "function 1 params 0 dots !"+word+" x")
	}
}

// Lines at a wrong place: told at their first word, whatever the others say.
func TestAssembleFaultPlace(t *testing.T) {
	rest := []string{"", " local 1", " outer", " x", " 1", " \"\"", " int 1", " 1.5 @1", " int 1 2 3"}
	for _, behind := range rest {
		// Without a function.
		checkListMarked(t, impl.ListPlace, "", "!up"+behind, "!const"+behind, "  !up"+behind, "\t!const"+behind+" ; c")
		// Behind what comes later in a function.
		checkListMarked(t, impl.ListPlace, plainHead+"const int 1\n", "!up"+behind)
		checkListMarked(t, impl.ListPlace, plainHead+"up local 1\nconst float 1\n\n", " !up"+behind)
		checkListMarked(t, impl.ListPlace, plainHead+"1 tick 0 0 0\n", "!up"+behind, "!const"+behind)
		checkListMarked(t, impl.ListPlace, plainHead+"@1: 1 tick 0 0 0\n", "!up"+behind, "!const"+behind)
		checkListMarked(t, impl.ListPlace, plainHead+"up local 1\nconst string \"\"\n1 jump 0 @1 0\n", "!up"+behind, "!const"+behind)
	}
	checkListMarked(t, impl.ListPlace, "", "!1 tick 0 0 0", "!1", "  !1 tick", "!1 tock", "!-5 x", "!0x10 jump 0 @1 0", "!1.5 tick 0 0 0", "!nan", "!inf x", "!1 2 3 4 5 6 7",
		"!@1: 1 tick 0 0 0", "!@1:", "\t!@1: 1", "!@1: x", "!@1: @1:", "!@1: up local 1", "!@1: function", "!@00000: 1 jump 0 @0 0", "!@1: 1.5")
	// With a label ahead a line is one of an instruction.
	checkListMarked(t, impl.ListWord, plainHead, "@1: !up local 1", "@1: !const int 1", "@1: !function 1 params 0 dots 1 regs 1", "const int 1\n@1: !up local 1", "1 tick 0 0 0\n@1: !const int 1")
	// A function that is wrong is none; the next one has a new beginning.
	assembles(t, plainHead+"1 tick 0 0 0\n"+plainHead+"up local 1\nconst int 1\n1 tick 0 0 0\n"+plainHead+"const int 2", impl.Chunk{Protos: []impl.Proto{
		{Code: []impl.Instr{{Op: 1}}, Lines: []int{1}}, {Ups: []impl.Up{{FromLocal: true, Index: 1}}, Consts: []impl.Const{{Kind: impl.NodeInt, Int: 1}}, Code: []impl.Instr{{Op: 1}}, Lines: []int{1}},
		{Consts: []impl.Const{{Kind: impl.NodeInt, Int: 2}}}}})
}

func TestAssembleFaultTwice(t *testing.T) {
	checkListMarked(t, impl.ListTwice, plainHead, "@1: 1 tick 0 0 0\n!@1: 1 tick 0 0 0", "@1: 1 tick 0 0 0\n1 tick 0 0 0\n!@1: 1 tick 0 0 0", "@1: 1 tick 0 0 0\n@2: 1 tick 0 0 0\n\n  !@2:", "@1: 1 tick 0 0 0\n!@1:",
		"@1: 1 tick 0 0 0\n!@1: 1 tick", "@1: 1 tick 0 0 0\n!@1: x", "@1: 1 tick 0 0 0\n!@1: 1.5 \"\" ; c", "@1: 1 tick 0 0 0\n!@01: 1 tick 0 0 0", "@00: 1 tick 0 0 0\n!@0: 1 tick 0 0 0", "@99999: 1 tick 0 0 0\n!@99999: 1 tick 0 0 0",
		"@1: 1 jump 0 @1 0\n!@1: 1 jump 0 @1 0", "1 jump 0 @9 0\n@1: 1 tick 0 0 0\n!@1: 1 tick 0 0 0", "@1: 1 tick 0 0 0\n!@1: up local 1")
	// Labels that look alike.
	assembles(t, plainHead+"@1: 0 tick 0 0 0\n@10: 1 tick 0 0 0\n@11: 2 tick 0 0 0\n@100: 3 tick 0 0 0\n@0: 4 tick 0 0 0", coding(many(impl.Instr{Op: impl.InsTick}, 5)...))
}

func TestAssembleFaultLabel(t *testing.T) {
	for _, op := range jumpOps() {
		checkListMarked(t, impl.ListLabel, plainHead, "1 "+listedNames[op]+" 0 !@1 0", "@2: 1 "+listedNames[op]+" 0 !@1 0 ; c")
	}
	// The first that is used, of those that aren't set.
	checkListMarked(t, impl.ListLabel, plainHead, "1 jump 0 !@1 0\n1 jump 0 @2 0", "1 jump 0 @2 0\n1 jump 0 !@1 0\n@2: 1 tick 0 0 0", "1 jump 0 !@2 0\n@1: 1 jump 0 @3 0\n1 jump 0 @1 0", "@1: 1 jump 0 @1 0\n\n; c\n\t1 jump 0\t!@5 0",
		"1 jump 0 !@5 0\n1 jump 0 @5 0", "@10: 1 jump 0 !@1 0", "@0: 1 jump 0 !@00001 0", "@1: 1 tick 0 0 0\n1 jump 0 !@11111 0")
	// Labels of another function don't count, ahead or behind.
	checkListMarked(t, impl.ListLabel, plainHead+"@1: 1 tick 0 0 0\n"+plainHead, "1 jump 0 !@1 0")
	checkListMarked(t, impl.ListLabel, plainHead, "1 jump 0 !@1 0\n"+plainHead+"@1: 1 tick 0 0 0")
	// At the function's end: behind all of its lines, ahead of what the words of the next one's line say, behind cutting them out.
	checkListMarked(t, impl.ListLabel, plainHead, "1 jump 0 !@1 0\nfunction", "1 jump 0 !@1 0\nfunction x", "1 jump 0 !@1 0\nfunction 1.5 params 0 dots 7 regs", "1 jump 0 !@1 0\n  function 1 params 0 dots 1 regs 1 1", "1 jump 0 !@1 0\nfunction \"\" @1 ; #")
	checkListMarked(t, impl.ListByte, plainHead, "1 jump 0 @1 0\nfunction !#", "1 jump 0 @1 0\nfunction x !1x", "1 jump 0 @1 0\n!function\"\"", "1 jump 0 @1 0\nfunction 1 params 0 dots 1 regs 1 !-")
	checkListMarked(t, impl.ListString, plainHead, "1 jump 0 @1 0\nfunction !\"", "1 jump 0 @1 0\nfunction x y !\"\\q\" #")
	checkListMarked(t, impl.ListWord, plainHead, "1 jump 0 @1 0\n!x", "1 jump 0 @1 0\n@2: !function 1 params 0 dots 1 regs 1", "1 jump 0 @1 0\n!functions")
	checkListMarked(t, impl.ListPlace, plainHead, "1 jump 0 @1 0\n!up local 1", "1 jump 0 @1 0\n!const")
	checkListMarked(t, impl.ListTwice, plainHead, "1 jump 0 @1 0\n@2: 1 tick 0 0 0\n!@2: 1 tick 0 0 0")
	checkListMarked(t, impl.ListNumber, plainHead, "1 jump 0 @1 0\n!1.5")
	checkListMarked(t, impl.ListMore, plainHead, "1 jump 0 @1 0\n1 jump 0 @1 0 !0")
	// And ahead of what the functions behind it have.
	checkListFault(t, plainHead+"1 jump 0 @1 0\n"+plainHead+"#", impl.Fault{Code: impl.ListLabel, Line: 2, At: len(plainHead) + 9})
	checkListFault(t, plainHead+"1 jump 0 @1 0\n"+plainHead+"1 jump 0 @2 0", impl.Fault{Code: impl.ListLabel, Line: 2, At: len(plainHead) + 9})
}

func TestAssembleFaultMore(t *testing.T) {
	for _, line := range []string{"function 1 params 0 dots 1 regs 1", "up local 0", "up outer 0", "const int 1", "const float 1.5", "const string \"a\"", "1 tick 0 0 0", "1 jump 0 @1 0", "@1: 1 jump 0 @1 0", "@1: 1 tick 0 0 0"} {
		for _, more := range []string{"0", "x", "\"\"", "@1", "@1:", "1.5", "nan", "up", "function", "0 0", "x \"\" 1", "tick 0 0 0"} {
			checkListMarked(t, impl.ListMore, plainHead, line+" !"+more, line+"\t \r!"+more+" ; c")
		}
	}
	checkListMarked(t, impl.ListMore, "", "function 1 params 0 dots 1 regs 1 !function 1 params 0 dots 1 regs 1")
}

// Two faults: in one line the first from the left, but what is wrong with words as such ahead of what they say; in two lines
// that of the first line.
func TestAssembleTwoFaults(t *testing.T) {
	// Cutting comes first.
	checkListMarked(t, impl.ListByte, plainHead, "x y !#", "1 tock 0 0 !#", "function 1.5 params 0 dots 7 regs !#", "1 tick 0 @1 0 7 !#", "x !# \"", "x !1x \"\\q\" #", "up !# \"", "const int 1.5 !@123456")
	checkListMarked(t, impl.ListString, plainHead, "x y !\"", "1 tock !\"\\q\" #", "1 tick 0 0 0 7 !\"", "x !\"# 1x", "const string !\"\\q\" \"")
	checkListMarked(t, impl.ListByte, "", "up local !#", "1 tick !#", "@1: !#", "tick !#")
	checkListMarked(t, impl.ListByte, plainHead+"@1: 1 tick 0 0 0\n", "@1: !#", "up !#", "const !#")
	// Then the words from the left.
	checkListMarked(t, impl.ListWord, plainHead, "function !x 1.5", "function 1 !x 1.5 dots 7", "1 !tock 1.5 x", "up !x 1.5", "up !x 1 2 3", "const !x 1.5 \"\"", "1 !1.5 nan", "const string !1.5 x", "@1: !x @1: 1.5", "1 tick 0 !@1 1.5 7", "1 jump !@1 @1 @1")
	checkListMarked(t, impl.ListNumber, plainHead, "function !1.5 x", "function !1.5", "function 1 params !1.5 x", "function 1 params 0 dots !2 x 1.5", "!1.5 tock", "!1.5", "1 tick !1.5 x 0", "1 tick !1.5", "1 jump 0 !nan @1", "up local !1.5 7", "const int !1.5 7", "@1: !1.5 tock", "1 jump 0 !1.5 x 9 9")
	checkListMarked(t, impl.ListMore, plainHead, "up local 1 !x", "const float 1 !1.5 \"\"")
	checkListMarked(t, impl.ListTwice, plainHead+"@1: 1 tick 0 0 0\n", "!@1: x", "!@1: 1.5 tock", "!@1:", "!@1: 1 tick 0 0 0 0")
	// Lines one by one.
	faults := []struct {
		line string
		code int
	}{{"!#", impl.ListByte}, {"const string !\"", impl.ListString}, {"!x", impl.ListWord}, {"const int!", impl.ListWord}, {"const int !1.5", impl.ListNumber}, {"1 tick 0 0 0 !0", impl.ListMore}, {"function 1 params 0 dots !2 regs 1", impl.ListNumber}, {"@1: 1 tick 0 0 0\n!@1:", impl.ListTwice}}
	for _, first := range faults {
		for _, second := range faults {
			checkListMarked(t, first.code, plainHead, first.line+"\n"+strings.ReplaceAll(second.line, "!", ""))
		}
	}
}

// Line and At go by the whole text, through lines of all kinds.
func TestAssembleFaultLines(t *testing.T) {
	text := ""
	for n := range 300 {
		line := []string{"", " ; c", plainHead[:len(plainHead)-1], "\t", "const string \"\\n\\010\"", "\r", ";\"", "1 tick 0 0 0"}[n%8]
		if line == "const string \"\\n\\010\"" {
			text += plainHead
		}
		text += line + "\n"
		want := impl.Fault{Code: impl.ListByte, Line: 1 + strings.Count(text, "\n"), At: len(text) + 1}
		if got, fault := impl.Assemble(text + " #"); fault != want || len(got.Protos) != 0 {
			t.Errorf("%d: %+v, want %+v", n, fault, want)
		}
	}
}

// All rows of up to three words, at each place in a text and behind the words of some lines.
func TestAssembleOfAllRows(t *testing.T) {
	t.Parallel()
	all := []string{"function", "up", "const", "params", "local", "outer", "int", "float", "string", "tick", "jump", "x", "0", "1", "2", "1.5", "nan", "\"\"", "\"a", "@1", "@2", "@1:", "@2:", "#", ";"}
	heads := []string{"", plainHead, plainHead + "up local 1\n", plainHead + "const int 1\n", plainHead + "@1: 1 jump 0 @1 0\n", plainHead + "1 jump 0 @2 0\n",
		"function 1 params 0 dots ", plainHead + "up ", plainHead + "const int ", plainHead + "@2: 1 jump 0 "}
	rows := []string{""}
	for n, last := 0, 0; n < 3; n++ {
		ends := len(rows)
		for _, row := range rows[last:ends] {
			for _, word := range all {
				rows = append(rows, strings.TrimPrefix(row+" "+word, " "))
			}
		}
		last = ends
	}
	codes := make([]map[int]int, len(rows))
	inParallel(len(rows), func(i int) {
		codes[i] = map[int]int{}
		for _, head := range heads {
			codes[i][checkAssembledByModel(t, head+rows[i])]++
		}
	})
	checkCodesCome(t, codes, 20, 0, impl.ListByte, impl.ListWord, impl.ListNumber, impl.ListString, impl.ListPlace, impl.ListTwice, impl.ListLabel, impl.ListMore)
}

// checkCodesCome looks that each of some codes comes at least so often.
func checkCodesCome(t *testing.T, counts []map[int]int, least int, codes ...int) {
	t.Helper()
	sum := map[int]int{}
	for _, count := range counts {
		for code, n := range count {
			sum[code] += n
		}
	}
	t.Log(fmt.Sprint(sum))
	for _, code := range codes {
		if sum[code] < least {
			t.Errorf("code %d comes but %d times: %v", code, sum[code], sum)
		}
	}
	for code := range sum {
		if !slices.Contains(codes, code) {
			t.Errorf("code %d comes %d times", code, sum[code])
		}
	}
}
