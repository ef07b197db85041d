package tests

import (
	"strings"
	"testing"

	"loop.example/g00002/impl"
)

// P5, what is of tokens: the first fault is told, with its place, and no tokens beside it.

func checkFault(t *testing.T, source string, want impl.Fault) {
	t.Helper()
	tokens, fault := impl.Lex(source)
	if fault != want || len(tokens) != 0 {
		t.Errorf("Lex(%q) = %+v, %+v, want %+v", source, tokens, fault, want)
	}
	short, fault := impl.Minify(source)
	if fault != want || short != "" {
		t.Errorf("Minify(%q) = %q, %+v, want %+v", source, short, fault, want)
	}
}

// checkFaultAt looks at a text with one fault by itself, behind others on its line, and on a later line.
func checkFaultAt(t *testing.T, source string, code, line, at int) {
	t.Helper()
	checkFault(t, source, impl.Fault{Code: code, Line: line, At: at})
	checkFault(t, "x = 1 "+source, impl.Fault{Code: code, Line: line, At: 6 + at})
	for _, ahead := range []string{"\n", "x\n", "\r\n\r\n", "-- @ '\n", "--[[ '\n ]]", "'a\\\nb';\n ", "[[\n]]=[=[\n\n]=] "} {
		checkFault(t, ahead+source, impl.Fault{Code: code, Line: line + strings.Count(ahead, "\n"), At: len(ahead) + at})
	}
}

func TestLexFaultByte(t *testing.T) {
	signs := "+-*/%^#&~|<=>(){}[];:,."
	for b := range 256 {
		c := string([]byte{byte(b)})
		known := strings.Contains("\t\n\r \"'_"+signs, c) || c >= "0" && c <= "9" || c >= "a" && c <= "z" || c >= "A" && c <= "Z"
		if known {
			continue
		}
		checkFaultAt(t, c, impl.FaultByte, 1, 0)
		checkFaultAt(t, c+" x", impl.FaultByte, 1, 0)
		checkFaultAt(t, "y"+c, impl.FaultByte, 1, 1)
		checkFaultAt(t, "y\n5 "+c+"\n", impl.FaultByte, 2, 4)
	}
	checkFaultAt(t, "\u00e9", impl.FaultByte, 1, 0)
	checkFaultAt(t, "\u20ac\u20ac", impl.FaultByte, 1, 0)
	checkFaultAt(t, "a\u20ac", impl.FaultByte, 1, 1)
	checkFaultAt(t, "a != b", impl.FaultByte, 1, 2)
	checkFaultAt(t, "\\n", impl.FaultByte, 1, 0)
	checkFaultAt(t, "\xef\xbb\xbfx", impl.FaultByte, 1, 0)
}

func TestLexFaultString(t *testing.T) {
	for _, source := range []string{`"`, `'`, `"abc`, `'abc`, `"abc'`, `'abc"`, "'\n'", "\"a\nb\"", "'a\n", "'\\n\n'", "'\\\\\n'", "'\\\n", "'\\\na\n'", "'\\'", `"\"`, `'\1`, `'\12`, `'\255`, `'\x41`, "'a\\\n\\\n", "'\x00", "'\xff", "'--", "'[["} {
		checkFaultAt(t, source, impl.FaultString, 1, 0)
	}
	checkFaultAt(t, "''x'", impl.FaultString, 1, 3)
	checkFaultAt(t, "'a'\n 'b\n", impl.FaultString, 2, 5)
	checkFaultAt(t, "'a\\\nb' 'c", impl.FaultString, 2, 7)
}

func TestLexFaultEscape(t *testing.T) {
	for _, escape := range []string{`\q`, `\A`, `\N`, `\X41`, `\c`, `\e`, `\u`, `\u{41}`, `\z`, `\ `, `\?`, `\[`, "\\\r", "\\\x00", "\\\xff", "\\\u00e9", `\x`, `\x4`, `\xg`, `\x4g`, `\xg4`, `\x 4`, "\\x4\n", "\\x\n", `\256`, `\260`, `\300`, `\999`, `\2560`, `\-1`} {
		for _, quote := range []string{"'", `"`} {
			checkFaultAt(t, quote+escape+quote, impl.FaultEscape, 1, 1)
			checkFaultAt(t, quote+escape, impl.FaultEscape, 1, 1)
			checkFaultAt(t, quote+"ab"+escape+"\n", impl.FaultEscape, 1, 3)
			checkFaultAt(t, quote+"a\\\n\\\n "+escape+quote, impl.FaultEscape, 3, 7)
			checkFaultAt(t, quote+`\\\n`+escape+quote, impl.FaultEscape, 1, 5)
		}
	}
	// A backslash begins an escape; at the end of the text it is none of those that there are.
	checkFaultAt(t, `'\`, impl.FaultEscape, 1, 1)
	checkFaultAt(t, "\"a\\\n\\", impl.FaultEscape, 2, 4)
	checkFaultAt(t, `'\x'`, impl.FaultEscape, 1, 1)
}

func TestLexFaultNumber(t *testing.T) {
	for _, source := range []string{"3x", "3..2", "3..", "3...", "1e", "1e+", "1e-", "1e++1", "1e+-1", "1e5e5", "1e5.", "1e5.5", "1.2.3", "1.5.", ".5.", ".5.5", "5_", "1_000", "0x", "0X", "0xg", "0x1g", "0x1.8", "0x.", "0x_1",
		"0x1p4", "0b1", "1and", "3end", "1e1000", "1e309", "2e308", "0x1e.5", "5f", "1E+0001", ".5e", "00x1", strings.Repeat("1", 101), "0x" + strings.Repeat("0", 99), "." + strings.Repeat("0", 100)} {
		checkFaultAt(t, source, impl.FaultNumber, 1, 0)
		checkFaultAt(t, source+"\n x", impl.FaultNumber, 1, 0)
		checkFaultAt(t, "(\n"+source+")", impl.FaultNumber, 2, 2)
	}
	checkFaultAt(t, "a.5.5", impl.FaultNumber, 1, 1)
	checkFaultAt(t, "....5.", impl.FaultNumber, 1, 3)
}

func TestLexFaultLong(t *testing.T) {
	for _, source := range []string{"[[", "[[ ", "[[]", "[[a]", "[[a\n]", "[[]=]", "[=[", "[=[a]]", "[=[a]==]", "[=[]=", "[==[ a ]=]", "[==[a]===]", "[=[\n\n", "[[\\]", "[[[", "[[\n--]", "[" + strings.Repeat("=", 500) + "[]" + strings.Repeat("=", 499) + "]"} {
		checkFaultAt(t, source, impl.FaultLong, 1, 0)
		checkFaultAt(t, "--"+source, impl.FaultLong, 1, 2)
		checkFaultAt(t, "x\n\n--"+source, impl.FaultLong, 3, 5)
		checkFaultAt(t, "[[\n]] "+source, impl.FaultLong, 2, 6)
	}
	checkFaultAt(t, "a[[1]", impl.FaultLong, 1, 1)
}

func TestLexFaultLarge(t *testing.T) {
	large := impl.Fault{Code: impl.FaultLarge, Line: 1}
	for _, c := range []string{" ", "\n", "a", "@", "'", "\\", "\x00", "\xff", "[", "-"} {
		checkFault(t, strings.Repeat(c, impl.MaxSource+1), large)
		checkFault(t, strings.Repeat(c, 2*impl.MaxSource), large)
	}
	checkFault(t, "\n@"+strings.Repeat(" ", impl.MaxSource-1), large)
	checkFault(t, strings.Repeat(" ", impl.MaxSource-1)+"@", impl.Fault{Code: impl.FaultByte, Line: 1, At: impl.MaxSource - 1})
	checkFault(t, strings.Repeat("\n", impl.MaxSource-1)+"'", impl.Fault{Code: impl.FaultString, Line: impl.MaxSource, At: impl.MaxSource - 1})
	checkFault(t, "'"+strings.Repeat("a", impl.MaxSource-1), impl.Fault{Code: impl.FaultString, Line: 1})
	checkFault(t, "[["+strings.Repeat("\n", impl.MaxSource-2), impl.Fault{Code: impl.FaultLong, Line: 1})
	checkFault(t, "'"+strings.Repeat("\\\n", impl.MaxSource/2-1)+"\\", impl.Fault{Code: impl.FaultEscape, Line: impl.MaxSource / 2, At: impl.MaxSource - 1})
	checkFault(t, strings.Repeat("1", impl.MaxSource), impl.Fault{Code: impl.FaultNumber, Line: 1})
}

func TestLexFirstFault(t *testing.T) {
	checkFaultAt(t, "@ 'a", impl.FaultByte, 1, 0)
	checkFaultAt(t, "3x @", impl.FaultNumber, 1, 0)
	checkFaultAt(t, "x @ 3x", impl.FaultByte, 1, 2)
	checkFaultAt(t, "'a @", impl.FaultString, 1, 0)
	checkFaultAt(t, "'a\n @", impl.FaultString, 1, 0)
	checkFaultAt(t, "[[ @ 3x '", impl.FaultLong, 1, 0)
	checkFaultAt(t, "3x [[", impl.FaultNumber, 1, 0)
	checkFaultAt(t, "'a' [[ '", impl.FaultLong, 1, 4)
	checkFaultAt(t, `'\q \w`, impl.FaultEscape, 1, 1)
	checkFaultAt(t, "'\\q\n", impl.FaultEscape, 1, 1)
	checkFaultAt(t, "'a\n\\q'", impl.FaultString, 1, 0)
	checkFaultAt(t, "3x\n@", impl.FaultNumber, 1, 0)
	checkFaultAt(t, "-- @\n3x", impl.FaultNumber, 2, 5)
	checkFaultAt(t, "--[[ @ ]] [=[", impl.FaultLong, 1, 10)
	checkFaultAt(t, "--[[ @\n--[=[", impl.FaultLong, 1, 2)
}
