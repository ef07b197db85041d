package tests

import (
	"regexp"
	"slices"
	"strings"
	"testing"

	"loop.example/g00002/impl"
)

// P3: the short text has the same tokens but for Line and At; done twice it is the same text.

// unplaced are the tokens of a list without their lines and places.
func unplaced(tokens []impl.Token) []impl.Token {
	bare := slices.Clone(tokens)
	for i := range bare {
		bare[i].Line, bare[i].At = 0, 0
	}
	return bare
}

// checkShort looks at what P3 promises of a text without a fault, and hands its short text out.
func checkShort(t *testing.T, source string) string {
	t.Helper()
	tokens, fault := impl.Lex(source)
	if fault.Code != 0 {
		t.Errorf("%q has the fault %+v", source, fault)
		return ""
	}
	short, fault := impl.Minify(source)
	if fault != (impl.Fault{}) {
		t.Errorf("Minify(%q) tells %+v", source, fault)
	}
	if len(short) > impl.MaxSource {
		return short
	}
	again, fault := impl.Lex(short)
	if fault.Code != 0 || !slices.Equal(unplaced(again), unplaced(tokens)) {
		t.Errorf("%q is written short as %q, which has other tokens: %+v, %+v", source, short, again, fault)
	}
	twice, fault := impl.Minify(short)
	if fault != (impl.Fault{}) || twice != short {
		t.Errorf("%q is written short as %q, and this as %q, %+v", source, short, twice, fault)
	}
	return short
}

func checkMinify(t *testing.T, source, want string) {
	t.Helper()
	if short := checkShort(t, source); short != want {
		t.Errorf("Minify(%q) = %q, want %q", source, short, want)
	}
}

var openRun = regexp.MustCompile(`\[=+$`)

// modelMinify puts a blank where two tokens need one, or where several would open a long bracket.
func modelMinify(tokens []impl.Token) string {
	var short strings.Builder
	for i, token := range tokens[:len(tokens)-1] {
		text := modelText(token)
		if i > 0 {
			pair, fault := modelLex(modelText(tokens[i-1]) + text)
			apart := fault.Code == 0 && len(pair) == 3 && slices.Equal(unplaced(pair[:2]), unplaced(tokens[i-1:i+1]))
			if !apart || text == "[" && openRun.MatchString(short.String()) {
				short.WriteString(" ")
			}
		}
		short.WriteString(text)
	}
	return short.String()
}

func modelText(token impl.Token) string {
	const digits = "0123456789abcdef"
	switch {
	case token.Kind == impl.TokFloat:
		return modelFormat(wordNumber(token.Bits))
	case token.Kind == impl.TokInt && token.Int >= 0:
		return modelFormat(intNumber(token.Int))
	case token.Kind == impl.TokInt:
		text := "0x"
		for shift := 60; shift >= 0; shift -= 4 {
			text += digits[token.Int>>shift&15:][:1]
		}
		return text
	case token.Kind != impl.TokString:
		return token.Text
	}
	text := `"`
	for _, b := range []byte(token.Text) {
		switch {
		case b == '"':
			text += `\"`
		case b == '\\':
			text += `\\`
		case b < 32 || b > 126:
			text += `\` + digits[b/100:][:1] + digits[b/10%10:][:1] + digits[b%10:][:1]
		default:
			text += string([]byte{b})
		}
	}
	return text + `"`
}

func TestMinifyOrdinaryTexts(t *testing.T) {
	checkMinify(t, "", "")
	checkMinify(t, " \t\r\n", "")
	checkMinify(t, "-- c", "")
	checkMinify(t, "--[[ c\n]]", "")
	checkMinify(t, "-- a\n --[=[ b ]=] x --[[ c ]] -- d", "x")
	checkMinify(t, "  local x = 1\n", "local x=1")
	checkMinify(t, "local a , b = f ( x , 1 ) , { } -- two\n", "local a,b=f(x,1),{}")
	checkMinify(t, "for i = 1 , 10 do print ( i ) end", "for i=1,10 do print(i)end")
	checkMinify(t, "if not a == nil then return - 5 .. 'x' end", `if not a==nil then return-5 .."x"end`)
	checkMinify(t, "function t.f(a, ...)\n  return a .. ...\nend", "function t.f(a,...)return a.. ...end")
	checkMinify(t, "goto l ; :: l ::", "goto l;::l::")
	checkMinify(t, "local x <const>, y <close> = 1, 2", "local x<const>,y<close> =1,2")
	checkMinify(t, "x--[[]]y", "x y")
	checkMinify(t, "x--\n+--\ny", "x+y")
	checkMinify(t, "o:m[[s]] {1;2}", `o:m"s"{1;2}`)
}

func TestMinifyBlanks(t *testing.T) {
	for source, want := range map[string]string{
		// Names, words and numerals.
		"a b": "a b", "a and b": "a and b", "not  not": "not not", "a 5": "a 5", "5 a": "5 a", "5 and": "5 and", "5  5": "5 5", "a 0.5": "a 0.5", "a .5": "a 0.5", "1.5 .5": "1.5 0.5", "0x5 a": "5 a", "a 'b' c": `a"b"c`, "5 'b' 5": `5"b"5`,
		"5 e": "5 e", "5 e + 5": "5 e+5", "0xffffffffffffffff e": "0xffffffffffffffff e", "0xfffffffffffffffe + 1": "0xfffffffffffffffe+1", "0xfffffffffffffffe - 1": "0xfffffffffffffffe-1", "a ( 5 ) b": "a(5)b",
		// Numerals and points.
		"5 .": "5 .", "5 ..": "5 ..", "5 ...": "5 ...", "5 .. 5": "5 ..5", "5 .. .5": "5 ..0.5", ". 5": ". 5", ".. 5": "..5", "... 5": "...5", "1e17 ..": "1e+17 ..", "1e17 - 1": "1e+17-1", "a . b": "a.b", "a .. b": "a..b", "a ... b": "a...b", ". .5": ". 0.5", ".. .5": "..0.5",
		// Signs that would grow together.
		"- -": "- -", "- - -": "- - -", "- -5": "- -5", "5 - -5": "5- -5", "- --c\n-": "- -", "- =": "-=", "- + -": "-+-", "[ [": "[ [", "[ =": "[=", "= [": "=[", "[ ==": "[==", "] ]": "]]", "[ ]": "[]", "[ [[s]] ]": `["s"]`, "a[ [=[s]=] ]": `a["s"]`,
		"< <": "< <", "< =": "< =", "< <=": "< <=", "<< =": "<<=", "<< <": "<<<", "<= =": "<==", "< ==": "< ==", "> >": "> >", "> =": "> =", "> >=": "> >=", ">> =": ">>=", "< >": "<>", "> <": "><", "= =": "= =", "= ==": "= ==", "== =": "===", "~ =": "~ =", "~ ==": "~ ==", "~= =": "~==", "= ~": "=~", "= ~=": "=~=", "~ ~": "~~", "~ ~=": "~~=",
		": :": ": :", ": ::": ": ::", ":: :": ":::", ":: ::": "::::", "/ /": "/ /", "/ //": "/ //", "// /": "///", ". .": ". .", ". ..": ". ..", ". ...": ". ...", ".. .": ".. .", ".. ..": ".. ..", ".. ...": ".. ...", "... .": "....", "... ..": ".....", "... ...": "......",
		// Three that would open a long bracket, though no two of them do.
		"[ = [": "[= [", "[ == [": "[== [", "[ == = [": "[=== [", "[ = == [": "[= ==[", "[ == == = [": "[===== [", "[ = [ = [": "[= [= [", "[ = x [": "[=x[", "] = [": "]=[", "[ = [ ] = ]": "[= []=]", "[ '=' [": `["="[`,
	} {
		checkMinify(t, source, want)
	}
}

func TestMinifyNumerals(t *testing.T) {
	for source, want := range map[string]string{"0": "0", "007": "7", "0x10": "16", "9223372036854775807": "9223372036854775807", "0x7FFFFFFFFFFFFFFF": "9223372036854775807", "0x8000000000000000": "0x8000000000000000",
		"0xFFFFFFFFFFFFFFFF": "0xffffffffffffffff", "0XFEDCBA9876543210": "0xfedcba9876543210", "0x123456789ABCDEF01": "2541551405711093505", "0x1F23456789ABCDEF0": "0xf23456789abcdef0",
		"1.50": "1.5", ".5": "0.5", "5.": "5.0", "0.": "0.0", "1e0": "1.0", "1e16": "10000000000000000.0", "1e17": "1e+17", "12e16": "1.2e+17", "0.00001": "0.00001", "0.000001": "1e-06", "9223372036854775808": "9.223372036854776e+18", "5e-324": "5e-324", "1e308": "1e+308"} {
		checkMinify(t, source, want)
		checkMinify(t, "x = "+source+" ;", "x="+want+";")
	}
	for _, w := range words(1000) {
		text := modelText(impl.Token{Kind: impl.TokInt, Int: int(w)})
		checkMinify(t, text, text)
		if n := wordNumber(w >> 1); n.Bits < 0x7FF0000000000000 {
			checkMinify(t, modelFormat(n), modelFormat(n))
		}
	}
}

func TestMinifyStrings(t *testing.T) {
	for source, want := range map[string]string{`''`: `""`, `'a b'`: `"a b"`, `'"'`: `"\""`, `"'"`: `"'"`, `'\\'`: `"\\"`, `'\65'`: `"A"`, `'\n1'`: `"\0101"`, "'\\\n'": `"\010"`, `'\0'`: `"\000"`, "[[\na\nb]]": `"a\010b"`, "'\x7f\x80\xff'": `"\127\128\255"`,
		"' ~'": `" ~"`, "'\x1f'": `"\031"`, `[[--]]`: `"--"`, `'a' .. [=[b]=]`: `"a".."b"`, `'a' "b"`: `"a""b"`, "'\u00e9'": `"\195\169"`} {
		checkMinify(t, source, want)
	}
	var all []byte
	for b := range 256 {
		all = append(all, byte(b))
		token := impl.Token{Kind: impl.TokString, Text: string([]byte{byte(b), '0'})}
		checkMinify(t, "[[\n"+token.Text+"]]", modelText(token))
	}
	checkMinify(t, "[==[\n"+string(all)+"]==]", modelText(impl.Token{Kind: impl.TokString, Text: string(all)}))
}

func TestMinifyTellsFaults(t *testing.T) {
	t.Parallel()
	faults := 0
	for _, source := range randomTexts(4000, 6) {
		if _, want := impl.Lex(source); want.Code != 0 {
			faults++
			checkFault(t, source, want)
		}
	}
	if faults < 1000 {
		t.Errorf("only %d of the texts have faults", faults)
	}
}

// samples are tokens of every kind.
func samples() []string {
	return append(strings.Fields(theSigns), "a", "e5", "and", "5", "0xfffffffffffffffe", "1.5", "1e17", "'s'", "[[=]]")
}

func TestMinifyOfAllPairs(t *testing.T) {
	t.Parallel()
	all := append(samples(), strings.Fields(theWords)...)
	for _, a := range all {
		for _, b := range all {
			source := a + "\n" + b
			tokens, _ := modelLex(source)
			checkMinify(t, source, modelMinify(tokens))
		}
	}
}

func TestMinifyOfAllTriples(t *testing.T) {
	t.Parallel()
	for _, a := range samples() {
		for _, b := range samples() {
			for _, c := range samples() {
				checkShort(t, a+" "+b+"\t"+c)
			}
		}
	}
}

func TestMinifyOfRows(t *testing.T) {
	t.Parallel()
	telling := []string{"[", "=", "==", "]", ".", "...", "-", "5", "'='"}
	for i := range len(telling) * len(telling) * len(telling) * len(telling) * len(telling) {
		source := ""
		for left, k := i, 0; k < 5; k++ {
			source += telling[left%len(telling)] + " "
			left /= len(telling)
		}
		checkShort(t, source)
	}
}

func TestMinifyOfRandomTexts(t *testing.T) {
	t.Parallel()
	whole := 0
	for _, most := range []int{3, 8, 20} {
		for _, source := range randomTexts(6000, most) {
			if tokens, fault := modelLex(source); fault.Code == 0 {
				whole++
				checkMinify(t, source, modelMinify(tokens))
			}
		}
	}
	if whole < 2000 {
		t.Errorf("only %d of the texts have no fault", whole)
	}
}

func TestMinifyOfGreatestTexts(t *testing.T) {
	checkMinify(t, strings.Repeat(" ", impl.MaxSource), "")
	checkMinify(t, strings.Repeat("- ", impl.MaxSource/2), strings.Repeat("- ", impl.MaxSource/2)[:impl.MaxSource-1])
	checkMinify(t, strings.Repeat(";", impl.MaxSource), strings.Repeat(";", impl.MaxSource))
	checkMinify(t, strings.Repeat("[ == ", impl.MaxSource/5), strings.Repeat("[== ", impl.MaxSource/5)[:impl.MaxSource/5*4-1])
	checkMinify(t, "["+strings.Repeat("=", impl.MaxSource-1), "["+strings.Repeat("=", impl.MaxSource-1))
	name := strings.Repeat("x", impl.MaxSource)
	checkMinify(t, name, name)
	checkMinify(t, "'"+name[2:]+"'", `"`+name[2:]+`"`)
	checkMinify(t, name[2:]+" y", name[2:]+" y")
}

// A short text may be longer than its source, and longer than a source may be; there is no fault in that.
func TestMinifyThatGrows(t *testing.T) {
	bytes := strings.Repeat("\x00", 10000)
	checkMinify(t, "'"+bytes+"'", `"`+strings.Repeat(`\000`, 10000)+`"`)
	bytes = strings.Repeat("\x00", 8191)
	checkMinify(t, "'"+bytes+"'=x", `"`+strings.Repeat(`\000`, 8191)+`"=x`)
	// Two that together have more bytes than Lex takes aren't read as these two.
	checkMinify(t, "=x'"+bytes+"'=y", `=x"`+strings.Repeat(`\000`, 8191)+`"=y`)
	checkMinify(t, "=xyz'"+bytes+"'=y", `=xyz "`+strings.Repeat(`\000`, 8191)+`"=y`)
}
