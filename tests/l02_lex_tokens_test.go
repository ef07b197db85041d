package tests

import (
	"math"
	"slices"
	"strconv"
	"strings"
	"testing"
	"unsafe"

	"loop.example/g00002/impl"
)

func endToken(line, at int) impl.Token { return impl.Token{Kind: impl.TokEnd, Line: line, At: at} }

func nameToken(line, at int, text string) impl.Token {
	return impl.Token{Kind: impl.TokName, Line: line, At: at, Text: text}
}

func wordToken(line, at int, text string) impl.Token {
	return impl.Token{Kind: impl.TokWord, Line: line, At: at, Text: text}
}

func signToken(line, at int, text string) impl.Token {
	return impl.Token{Kind: impl.TokSign, Line: line, At: at, Text: text}
}

func stringToken(line, at int, text string) impl.Token {
	return impl.Token{Kind: impl.TokString, Line: line, At: at, Text: text}
}

func intToken(line, at, i int) impl.Token {
	return impl.Token{Kind: impl.TokInt, Line: line, At: at, Int: i}
}

func floatToken(line, at int, f float64) impl.Token {
	return impl.Token{Kind: impl.TokFloat, Line: line, At: at, Bits: math.Float64bits(f)}
}

func checkTokens(t *testing.T, source string, want ...impl.Token) {
	t.Helper()
	tokens, fault := impl.Lex(source)
	if fault != (impl.Fault{}) || !slices.Equal(tokens, want) {
		t.Errorf("Lex(%q) = %+v, %+v, want %+v", source, tokens, fault, want)
	}
}

// checkOne looks at a text that is one token, alone, behind other lines, and with others on both sides.
func checkOne(t *testing.T, source string, want impl.Token) {
	t.Helper()
	want.Line, want.At = 1, 0
	lines := strings.Count(source, "\n")
	checkTokens(t, source, want, endToken(1+lines, len(source)))
	want.Line, want.At = 3, 4
	checkTokens(t, "\n-\n "+source, signToken(2, 1, "-"), want, endToken(3+lines, 4+len(source)))
	want.Line, want.At = 2, 3
	checkTokens(t, "x\n "+source+"\n;", nameToken(1, 0, "x"), want, signToken(3+lines, 4+len(source), ";"), endToken(3+lines, 5+len(source)))
}

func TestLexNothing(t *testing.T) {
	checkTokens(t, "", endToken(1, 0))
	checkTokens(t, " ", endToken(1, 1))
	checkTokens(t, "\t\r \r\t", endToken(1, 5))
	checkTokens(t, "\n", endToken(2, 1))
	checkTokens(t, "\r\n\r\n", endToken(3, 4))
	checkTokens(t, " \n\t\n\r\n ", endToken(4, 7))
}

func TestLexWords(t *testing.T) {
	words := strings.Fields(theWords)
	if len(words) != 22 {
		t.Fatalf("%d words", len(words))
	}
	for _, word := range words {
		checkOne(t, word, wordToken(0, 0, word))
		for _, name := range []string{word + "_", word + "0", "_" + word, word + word, strings.ToUpper(word), strings.ToUpper(word[:1]) + word[1:]} {
			checkOne(t, name, nameToken(0, 0, name))
		}
	}
	for _, name := range []string{"self", "const", "close", "print", "continue", "switch", "nan", "inf"} {
		checkOne(t, name, nameToken(0, 0, name))
	}
}

func TestLexNames(t *testing.T) {
	for _, name := range []string{"a", "z", "A", "Z", "_", "__", "a0", "a9", "_9", "x_y", "camelCase", "e5", "x10", strings.Repeat("long", 2000)} {
		checkOne(t, name, nameToken(0, 0, name))
	}
	for b := range 128 {
		c := string([]byte{byte(b)})
		part := c == "_" || c >= "0" && c <= "9" || c >= "a" && c <= "z" || c >= "A" && c <= "Z"
		tokens, _ := impl.Lex("a" + c)
		if got := len(tokens) == 2 && tokens[0] == nameToken(1, 0, "a"+c); got != part {
			t.Errorf("the byte %d: %+v", b, tokens)
		}
	}
}

func TestLexSigns(t *testing.T) {
	signs := strings.Fields(theSigns)
	if len(signs) != 33 {
		t.Fatalf("%d signs", len(signs))
	}
	for _, sign := range signs {
		checkOne(t, sign, signToken(0, 0, sign))
	}
}

// checkTexts looks at the texts of tokens alone.
func checkTexts(t *testing.T, source string, want ...string) {
	t.Helper()
	tokens, fault := impl.Lex(source)
	var texts []string
	for _, token := range tokens[:max(0, len(tokens)-1)] {
		texts = append(texts, token.Text)
	}
	if fault.Code != 0 || !slices.Equal(texts, want) {
		t.Errorf("Lex(%q) has the texts %q, %+v, want %q", source, texts, fault, want)
	}
}

func TestLexLongestSign(t *testing.T) {
	checkTexts(t, "....", "...", ".")
	checkTexts(t, ".....", "...", "..")
	checkTexts(t, ". ..", ".", "..")
	checkTexts(t, "<<<", "<<", "<")
	checkTexts(t, "<<=", "<<", "=")
	checkTexts(t, "<=<", "<=", "<")
	checkTexts(t, "<==", "<=", "=")
	checkTexts(t, ">>>=", ">>", ">=")
	checkTexts(t, "===", "==", "=")
	checkTexts(t, "~==", "~=", "=")
	checkTexts(t, "=~=", "=", "~=")
	checkTexts(t, "~~=", "~", "~=")
	checkTexts(t, "///", "//", "/")
	checkTexts(t, ":::", "::", ":")
	checkTexts(t, "[=]", "[", "=", "]")
	checkTexts(t, "[==x[", "[", "==", "x", "[")
	checkTexts(t, "]]", "]", "]")
	checkTexts(t, "]==]", "]", "==", "]")
	checkTexts(t, "-=-", "-", "=", "-")
	checkTexts(t, "f(){a[i]}", "f", "(", ")", "{", "a", "[", "i", "]", "}")
}

func TestLexIntegers(t *testing.T) {
	for text, want := range map[string]int{"0": 0, "7": 7, "007": 7, "1234567890": 1234567890, "9223372036854775807": math.MaxInt, "0x0": 0, "0x10": 16, "0XfF": 255, "0xabcdef": 0xABCDEF,
		"0xABCDEF": 0xABCDEF, "0x1e": 30, "0x7fffffffffffffff": math.MaxInt, "0x8000000000000000": math.MinInt, "0xFFFFFFFFFFFFFFFF": -1, "0x1FFFFFFFFFFFFFFFF": -1,
		strings.Repeat("0", 99) + "7": 7, "0x" + strings.Repeat("f", 98): -1} {
		checkOne(t, text, intToken(0, 0, want))
	}
}

func TestLexFloats(t *testing.T) {
	for text, want := range map[string]float64{"0.0": 0, "1.5": 1.5, ".5": 0.5, "5.": 5, "1e5": 1e5, "1E5": 1e5, "1e+5": 1e5, "1E-5": 1e-5, "1.e1": 10, ".5e-1": 0.05, "1e005": 1e5,
		"9223372036854775808": 0x1p63, "1.7976931348623157e308": math.MaxFloat64, "5e-324": math.SmallestNonzeroFloat64, "1e-999": 0, strings.Repeat("9", 100): 1e100} {
		checkOne(t, text, floatToken(0, 0, want))
	}
}

func TestLexNumeralsAndOthers(t *testing.T) {
	checkTokens(t, "0x1e+5", intToken(1, 0, 0x1E), signToken(1, 4, "+"), intToken(1, 5, 5), endToken(1, 6))
	checkTokens(t, "0X1E-5", intToken(1, 0, 0x1E), signToken(1, 4, "-"), intToken(1, 5, 5), endToken(1, 6))
	checkTokens(t, "1e5+3", floatToken(1, 0, 1e5), signToken(1, 3, "+"), intToken(1, 4, 3), endToken(1, 5))
	checkTokens(t, "1-1", intToken(1, 0, 1), signToken(1, 1, "-"), intToken(1, 2, 1), endToken(1, 3))
	checkTokens(t, "-5", signToken(1, 0, "-"), intToken(1, 1, 5), endToken(1, 2))
	checkTokens(t, "a.5", nameToken(1, 0, "a"), floatToken(1, 1, 0.5), endToken(1, 3))
	checkTokens(t, "a.b", nameToken(1, 0, "a"), signToken(1, 1, "."), nameToken(1, 2, "b"), endToken(1, 3))
	checkTokens(t, "..5", signToken(1, 0, ".."), intToken(1, 2, 5), endToken(1, 3))
	checkTokens(t, "...5", signToken(1, 0, "..."), intToken(1, 3, 5), endToken(1, 4))
	checkTokens(t, "....5", signToken(1, 0, "..."), floatToken(1, 3, 0.5), endToken(1, 5))
	checkTokens(t, "5 ..5", intToken(1, 0, 5), signToken(1, 2, ".."), intToken(1, 4, 5), endToken(1, 5))
	checkTokens(t, "5'a'", intToken(1, 0, 5), stringToken(1, 1, "a"), endToken(1, 4))
	checkTokens(t, "a'b'c", nameToken(1, 0, "a"), stringToken(1, 1, "b"), nameToken(1, 4, "c"), endToken(1, 5))
	checkTokens(t, "'a''b'\"c\"", stringToken(1, 0, "a"), stringToken(1, 3, "b"), stringToken(1, 6, "c"), endToken(1, 9))
}

func TestLexStrings(t *testing.T) {
	for text, want := range map[string]string{`""`: "", `''`: "", `"a"`: "a", `'a'`: "a", `"'"`: "'", `'"'`: `"`, `"--"`: "--", `"[["`: "[[", `'a b'`: "a b", "'\t\r\x00\x0b'": "\t\r\x00\x0b",
		"'\x80\xff\xc3'": "\x80\xff\xc3", "\"\u00e9\u20ac\"": "\u00e9\u20ac", "'" + strings.Repeat("x", 9000) + "'": strings.Repeat("x", 9000)} {
		checkOne(t, text, stringToken(0, 0, want))
	}
	for b := range 256 {
		if b == '\n' || b == '\\' || b == '"' {
			continue
		}
		checkOne(t, `"`+string([]byte{byte(b)})+`"`, stringToken(0, 0, string([]byte{byte(b)})))
	}
}

func TestLexEscapes(t *testing.T) {
	for text, want := range map[string]string{`\a`: "\x07", `\b`: "\x08", `\t`: "\x09", `\n`: "\x0a", `\v`: "\x0b", `\f`: "\x0c", `\r`: "\x0d", `\\`: "\\", `\"`: "\"", `\'`: "'", "\\\n": "\n",
		`\\n`: "\\n", "\\\\\\\n": "\\\n", `\x00`: "\x00", `\x41`: "A", `\xfF`: "\xff", `\xAb`: "\xab", `\x411`: "A1",
		`\0`: "\x00", `\9`: "\x09", `\00`: "\x00", `\99`: "c", `\000`: "\x00", `\065`: "A", `\65`: "A", `\255`: "\xff", `\199`: "\xc7", `\249`: "\xf9", `\0001`: "\x001", `\0655`: "A5", `\2555`: "\xff5",
		`\1a`: "\x01a", `\12a`: "\x0ca", `\7\8`: "\x07\x08", "\\6\u00e9": "\x06\u00e9", "\\1\xff": "\x01\xff"} {
		checkOne(t, "'"+text+"'", stringToken(0, 0, want))
		checkOne(t, `"`+text+`"`, stringToken(0, 0, want))
	}
	for value := range 256 {
		want := stringToken(0, 0, string([]byte{byte(value)}))
		checkOne(t, "'\\"+strconv.Itoa(value)+"'", want)
		checkOne(t, "'\\x"+strconv.FormatInt(int64(value+256), 16)[1:]+"'", want)
	}
}

func TestLexLongBrackets(t *testing.T) {
	for text, want := range map[string]string{"[[]]": "", "[[a]]": "a", "[=[a]=]": "a", "[==[a]==]": "a", "[=====[a]=====]": "a", "[[a[b]c]]": "a[b]c", "[[ [[ ]]": " [[ ", "[=[a]]b]=]": "a]]b",
		"[[a]=]b]]": "a]=]b", "[==[a]=]b]]c]===]d]==]": "a]=]b]]c]===]d", "[=[]]=]": "]", "[=[]==]=]": "]==", "[[\n]]": "", "[[\na]]": "a", "[[\n\na]]": "\na", "[[a\n]]": "a\n", "[[\r\na]]": "\r\na", "[=[\na\nb\n]=]": "a\nb\n",
		`[[\n\65\q]]`: `\n\65\q`, `[["']]`: `"'`, "[[--x]]": "--x", "[[\x00\x80\xff]]": "\x00\x80\xff", "[" + strings.Repeat("=", 3000) + "[x]" + strings.Repeat("=", 3000) + "]": "x"} {
		checkOne(t, text, stringToken(0, 0, want))
	}
	checkTokens(t, "[[a]]]", stringToken(1, 0, "a"), signToken(1, 5, "]"), endToken(1, 6))
	checkTokens(t, "[[a]]b[[c]]", stringToken(1, 0, "a"), nameToken(1, 5, "b"), stringToken(1, 6, "c"), endToken(1, 11))
	checkTokens(t, "a[ [[b]] ]", nameToken(1, 0, "a"), signToken(1, 1, "["), stringToken(1, 3, "b"), signToken(1, 9, "]"), endToken(1, 10))
	checkTokens(t, "[[\n\n]]x", stringToken(1, 0, "\n"), nameToken(3, 6, "x"), endToken(3, 7))
}

func TestLexComments(t *testing.T) {
	for _, comment := range []string{"--", "-- c", "--- c", "--c -- d", "--'", "--\\", "--@", "--\xff", "--[", "--[=", "--[=x", "--[==", "-- [[", "--]]", "--=[["} {
		checkTokens(t, comment, endToken(1, len(comment)))
		checkTokens(t, comment+" x]]\ny", nameToken(2, len(comment)+5, "y"), endToken(2, len(comment)+6))
		checkTokens(t, "x"+comment+"\n\n", nameToken(1, 0, "x"), endToken(3, len(comment)+3))
	}
	for _, comment := range []string{"--[[]]", "--[[ c ]]", "--[=[ ]] ]=]", "--[==[]]]=]]==]", "--[[\n]]", "--[[ a\nb\n ]]", "--[[--]]", "--[[ --[[ ]]", "--[[ \\ ' \" @ \xff ]]"} {
		lines := strings.Count(comment, "\n")
		checkTokens(t, comment, endToken(1+lines, len(comment)))
		checkTokens(t, comment+"y", nameToken(1+lines, len(comment), "y"), endToken(1+lines, len(comment)+1))
		checkTokens(t, "x"+comment+"y", nameToken(1, 0, "x"), nameToken(1+lines, 1+len(comment), "y"), endToken(1+lines, 2+len(comment)))
	}
	checkTokens(t, "a - - b", nameToken(1, 0, "a"), signToken(1, 2, "-"), signToken(1, 4, "-"), nameToken(1, 6, "b"), endToken(1, 7))
}

func TestLexLinesAndPlaces(t *testing.T) {
	source := "local s = 'a\\\nb' -- c\n\r\n--[[\n]] if [[\n\n]] 0x10 .. 2.5\n"
	checkTokens(t, source, wordToken(1, 0, "local"), nameToken(1, 6, "s"), signToken(1, 8, "="), stringToken(1, 10, "a\nb"), wordToken(5, 32, "if"),
		stringToken(5, 35, "\n"), intToken(7, 42, 16), signToken(7, 47, ".."), floatToken(7, 50, 2.5), endToken(8, 54))
}

func TestLexOfGreatestTexts(t *testing.T) {
	checkTokens(t, strings.Repeat(" ", impl.MaxSource), endToken(1, impl.MaxSource))
	checkTokens(t, strings.Repeat("\n", impl.MaxSource), endToken(impl.MaxSource+1, impl.MaxSource))
	name := strings.Repeat("a", impl.MaxSource)
	checkTokens(t, name, nameToken(1, 0, name), endToken(1, impl.MaxSource))
	text := strings.Repeat("\n", impl.MaxSource-4)
	checkTokens(t, "[["+text+"]]", stringToken(1, 0, text[1:]), endToken(impl.MaxSource-3, impl.MaxSource))
	text = strings.Repeat("\xff", impl.MaxSource-2)
	checkTokens(t, "'"+text+"'", stringToken(1, 0, text), endToken(1, impl.MaxSource))
	tokens, fault := impl.Lex(strings.Repeat(";\n", impl.MaxSource/2))
	if fault.Code != 0 || len(tokens) != impl.MaxSource/2+1 || tokens[1000] != signToken(1001, 2000, ";") {
		t.Errorf("many tokens: %d, %+v", len(tokens), fault)
	}
}

// Chapter 1: an answer shares no memory with an argument.
func TestLexSharesNothing(t *testing.T) {
	source := strings.Clone("name and 'quoted' [[long]] ... -- c")
	first := uintptr(unsafe.Pointer(unsafe.StringData(source)))
	tokens, _ := impl.Lex(source)
	for _, token := range tokens {
		if token.Text == "" {
			continue
		}
		at := uintptr(unsafe.Pointer(unsafe.StringData(token.Text)))
		if at >= first && at < first+uintptr(len(source)) {
			t.Errorf("the text of %+v is a piece of the source", token)
		}
	}
}
