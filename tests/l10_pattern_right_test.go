package tests

import (
	"math"
	"strings"
	"testing"

	"loop.example/g00002/impl"
)

// checkBad looks that patterns aren't right, whatever is called with them.
func checkBad(t *testing.T, patterns ...string) {
	t.Helper()
	for _, p := range patterns {
		checkFind(t, "abc", p, 0, "bad")
		checkFind(t, "", p, 0, "bad")
		checkFindAll(t, "abc", p, "bad")
		checkGsub(t, "abc", p, "x", 9, "bad")
	}
}

// checkRight looks that patterns are right.
func checkRight(t *testing.T, patterns ...string) {
	t.Helper()
	for _, p := range patterns {
		if answer := checkPatternByModel(t, "abc", p); answer == "bad" {
			t.Errorf("%s isn't right", short(p))
		}
	}
}

// matchesJust looks that a pattern for one byte matches just the bytes of a text.
func matchesJust(t *testing.T, pattern, bytes string) {
	t.Helper()
	for b := range 256 {
		subject := string([]byte{byte(b)})
		want := "none"
		if strings.Contains(bytes, subject) {
			want = "0-1"
		}
		checkFind(t, subject, pattern, 0, want)
	}
}

// bytesBetween is the text of all bytes from one to another.
func bytesBetween(first, last int) string {
	var text []byte
	for b := first; b <= last; b++ {
		text = append(text, byte(b))
	}
	return string(text)
}

// allBut is the text of all bytes that a text hasn't.
func allBut(bytes string) string {
	var others []byte
	for b := range 256 {
		if strings.IndexByte(bytes, byte(b)) < 0 {
			others = append(others, byte(b))
		}
	}
	return string(others)
}

// classBytes are the bytes of the letters behind %, told by their numbers.
func classBytes() map[string]string {
	small, large, digits := bytesBetween(97, 122), bytesBetween(65, 90), bytesBetween(48, 57)
	return map[string]string{
		"a": small + large,
		"d": digits,
		"l": small,
		"s": bytesBetween(9, 13) + bytesBetween(32, 32),
		"u": large,
		"w": small + large + digits,
		"x": digits + bytesBetween(97, 102) + bytesBetween(65, 70),
		"p": bytesBetween(33, 47) + bytesBetween(58, 64) + bytesBetween(91, 96) + bytesBetween(123, 126),
		"c": bytesBetween(0, 31) + bytesBetween(127, 127),
	}
}

func TestPatternClasses(t *testing.T) {
	for letter, bytes := range classBytes() {
		others, capital := allBut(bytes), strings.ToUpper(letter)
		matchesJust(t, "%"+letter, bytes)
		matchesJust(t, "%"+capital, others)
		matchesJust(t, "[%"+letter+"]", bytes)
		matchesJust(t, "[%"+capital+"]", others)
		matchesJust(t, "[^%"+letter+"]", others)
		matchesJust(t, "[^%"+capital+"]", bytes)
		matchesJust(t, "[%"+letter+"%"+capital+"]", allBut(""))
		matchesJust(t, "[^%"+letter+"%"+capital+"]", "")
	}
	matchesJust(t, ".", allBut(""))
	matchesJust(t, "[.]", ".")
	matchesJust(t, "[^.]", allBut("."))
	matchesJust(t, "[%a_%d]", bytesBetween(97, 122)+bytesBetween(65, 90)+bytesBetween(48, 57)+"_")
}

// Each byte behind %, as a single and in a set, and each byte by itself.
func TestPatternEachByte(t *testing.T) {
	classes := classBytes()
	for b := range 256 {
		text := string([]byte{byte(b)})
		isDigit := b >= '0' && b <= '9'
		isLetter := b >= 'A' && b <= 'Z' || b >= 'a' && b <= 'z'
		_, known := classes[strings.ToLower(text)]
		switch {
		case isDigit || isLetter && !known:
			checkBad(t, "%"+text, "[%"+text+"]", "[^%"+text+"]", "[a%"+text+"]", "%f[%"+text+"]", "a%"+text+"b")
		case isLetter:
			checkRight(t, "%"+text, "[%"+text+"]", "%f[%"+text+"]")
		default:
			matchesJust(t, "%"+text, text)
			matchesJust(t, "[%"+text+"]", text)
			matchesJust(t, "[^%"+text+"]", allBut(text))
		}
		switch text {
		case "%", "[", "(", ")":
			checkBad(t, text, "a"+text)
		case "^", "$", ".":
			matchesJust(t, "%"+text, text)
		default:
			matchesJust(t, text, text)
		}
		if b != '%' && b != '^' && b != ']' {
			matchesJust(t, "["+text+"]", text)
			matchesJust(t, "[^"+text+"]", allBut(text))
		}
	}
}

func TestPatternSets(t *testing.T) {
	for pattern, bytes := range map[string]string{
		"[]]": "]", "[]a]": "]a", "[a-]": "a-", "[-a]": "-a", "[-]": "-", "[--]": "-", "[a-%d]": "a-0123456789",
		"[%a-z]": bytesBetween(97, 122) + bytesBetween(65, 90) + "-", "[%-z]": "-z", "[%-]": "-", "[%--z]": "-z",
		"[z-a]": "", "[a-z]": bytesBetween(97, 122), "[a-a]": "a", "[a-c-e]": "abc-e", "[a-cx-z]": "abcxyz", "[]-a]": bytesBetween(93, 97),
		"[]-]": "]-", "[%]]": "]", "[%]-a]": "]-a", "[%^a]": "^a", "[a^]": "a^", "[a^b]": "a^b", "[[]": "[", "[[-a]": bytesBetween(91, 97),
		"[a-[]": "", "[--a]": bytesBetween(45, 97), "[a--]": "", "[---]": "-", "[%%]": "%", "[%%-a]": "%-a", "[a-%%]": "a-%", "[$]": "$", "[()]": "()",
		"[.]": ".", "[*+?-]": "*+?-", "[\x00-\x02]": "\x00\x01\x02", "[\xfd-\xff]": "\xfd\xfe\xff", "[\x00-\xff]": allBut(""), "[\xff-\x00]": "",
		"[%a-%d]": bytesBetween(97, 122) + bytesBetween(65, 90) + "-0123456789", "[a-%]]": "a-]", "[%z-]": "bad", "[a-%z]": "bad", "[a-%1]": "bad",
		"[+--]": "+,-", "[+--%]]": "+,-]", "[a-z%]": "bad", "[a-z": "bad", "[a-": "bad", "[a": "bad", "[": "bad", "[^": "bad", "[]": "bad", "[^]": "bad",
		"[%": "bad", "[%]": "bad", "[a%]": "bad", "[+-%]": "bad", "[]-": "bad", "[^]-": "bad", "[]-a": "bad", "[%a": "bad", "[^%": "bad",
	} {
		if bytes == "bad" {
			checkBad(t, pattern)
			continue
		}
		matchesJust(t, pattern, bytes)
		matchesJust(t, "[^"+pattern[1:], allBut(bytes))
	}
	matchesJust(t, "[^^]", allBut("^"))
	matchesJust(t, "[^^-a]", allBut(bytesBetween(94, 97)))
	matchesJust(t, "[^%^]", allBut("^"))
	checkFind(t, "a-]-]]", "[a-]-]", 0, "0-3")
	checkFind(t, "b]", "[^]]]", 0, "0-2")
	checkFind(t, "]]", "[]]]", 0, "0-2")
}

func TestPatternLengths(t *testing.T) {
	checkRight(t, times("a", 200), times("a*", 100), "^"+times("a", 198)+"$", "["+times("a", 198)+"]", times("%a", 100), times("%bab", 50))
	checkBad(t, times("a", 201), "^"+times("a", 200), times("a", 200)+"$", "["+times("a", 199)+"]", times("a*", 100)+"b", times("%a", 100)+"b", times("%bab", 50)+"b",
		times("a", 1000), times("a", 100000), times("(", 300))
	checkFind(t, times("a", 200), times("a", 200), 0, "0-200")
	checkFind(t, times("a", 199), times("a", 200), 0, "none")
}

func TestPatternCaptureCounts(t *testing.T) {
	places := times(" @0", 16)
	checkFind(t, "abc", times("()", 16), 0, "0-0"+places)
	checkFind(t, "abc", times("(", 16)+"a"+times(")", 16), 0, "0-1"+times(" 0-1", 16))
	checkFind(t, "abcdefghijklmnop", times("(.)", 16), 0, "0-16 0-1 1-2 2-3 3-4 4-5 5-6 6-7 7-8 8-9 9-10 10-11 11-12 12-13 13-14 14-15 15-16")
	checkFind(t, "abc", times("()", 15)+"(a)", 0, "0-1"+times(" @0", 15)+" 0-1")
	checkFind(t, "abc", "(a"+times("()", 15)+")", 0, "0-1 0-1"+times(" @1", 15))
	checkBad(t, times("()", 17), times("(a)", 17), times("(", 17)+"a"+times(")", 17), times("()", 16)+"(a)", times("(a)", 16)+"()", "("+times("()", 16)+")", times("()", 100))
	checkBad(t, "(", ")", "(a", "a)", "(a))", "((a)", "())", "(()", ")(", "a)(b", "(a)b)", "()(", "())(", "(((a))", "%b()(", "[(])", "(%)")
	checkRight(t, "(a)", "()", "(())", "((a)())", "(a)(b)", "%(", "%)", "(%()", "(%()%)", "(%))", "[(]", "[)]", "%b()", "%b((", "%b)(", "(%b())", "([)])")
	checkFind(t, "a", "(())", 0, "0-0 0-0 @0")
	checkFind(t, "abc", "((a)(b))(c)", 0, "0-3 0-2 0-1 1-2 2-3")
	checkFind(t, "abcd", "(a(b(c)))(d)", 0, "0-4 0-3 1-3 2-3 3-4")
}

func TestPatternHeldIsClosed(t *testing.T) {
	checkBad(t, "%0", "%0a", "(a)%0", "%1", "%9", "%1(a)", "(a%1)", "(%1)", "(%1a)", "((a)%1)", "(a(b%1))", "(a)%2", "(a)(%2)", "(a)(b%2)", "()%2",
		"(()%1)", times("()", 8)+"%9", times("(", 9)+"a%9"+times(")", 9), "%1()", "a%1", "()%0")
	checkRight(t, "(a)%1", "()%1", "(a)(b)%1%2", "(a)(b%1)", "((a)%2)", "((a))%1", "((a))%2", "(()%2)", "((a)(b%2))%1%2%3", times("()", 9)+"%9",
		times("(a)", 9)+"%9", times("()", 16)+"%9", "(a)%10", "(a)[%%1]")
	checkFind(t, "aa0", "(a)%10", 0, "0-3 0-1")
	checkFind(t, "abcdefghijj0", times("(.)", 9)+"%9?", 0, "none")
	checkFind(t, "abcdefghii?", times("(.)", 9)+"%9?", 0, "0-11 0-1 1-2 2-3 3-4 4-5 5-6 6-7 7-8 8-9")
	checkFind(t, "abcdefghijkk1", times("(.)", 10)+"%91", 0, "none")
	checkFind(t, "abcdefghiji1", times("(.)", 10)+"%91", 0, "0-12 0-1 1-2 2-3 3-4 4-5 5-6 6-7 7-8 8-9 9-10")
}

func TestPatternEscapes(t *testing.T) {
	checkBad(t, "%", "a%", "%%%", "(%", "%b", "%ba", "a%b", "%b(", "%bb", "%f", "%fa", "%f(", "%f%a", "%f.", "%f]", "%f[", "%f[a", "%f[]", "%f[^]", "%f[%]", "%f[%f]", "%f^[a]",
		"%B()", "%F[a]", "%q", "%g", "%Z", "%y")
	checkRight(t, "%%", "%b()", "%bbb", "%bb%", "%b%b", "%b%%", "%b  ", "%b]]", "%b[[", "%b\x00\xff", "%f[a]", "%f[]]", "%f[^]]", "%f[a-z]", "%f[^%s]")
	checkFind(t, "a%b%%c", "%b%b", 0, "1-3")
	checkFind(t, "b%%", "%bb%", 0, "0-2")
}

// A sign behind what takes none is a byte that stands for itself, and so may have a sign.
func TestPatternSignsThatStandForThemselves(t *testing.T) {
	for _, sign := range []string{"*", "+", "-", "?"} {
		checkFind(t, "a"+sign, sign, 0, "1-2")
		checkFind(t, "b"+sign+"a", sign+"a", 0, "1-3")
		checkFind(t, sign+"a", "^"+sign, 0, "0-1")
		checkFind(t, "ab"+sign, "(b)"+sign, 0, "1-3 1-2")
		checkFind(t, "ab", "(b)"+sign, 0, "none")
		checkFind(t, "b"+sign, "b()"+sign, 0, "0-2 @1")
		checkFind(t, "a"+sign+"b", "("+sign+"b)", 0, "1-3 1-3")
		checkFind(t, "aa"+sign, "(a)%1"+sign, 0, "0-3 0-1")
		checkFind(t, "(a)"+sign, "%b()"+sign, 0, "0-4")
		checkFind(t, "b"+sign+"a", "%f[%p]"+sign, 0, "1-2")
		checkFind(t, "aa"+sign+"b", "a+"+sign+"b", 0, "0-4")
		checkFind(t, "a"+sign+"b", "a?"+sign+"b", 0, "0-3")
		checkFind(t, "a"+sign+"b", "a*"+sign+"b", 0, "0-3")
		checkFind(t, "a"+sign+"b", "a-"+sign+"b", 0, "0-3")
		checkFind(t, "ab"+times(sign, 3)+"c", "b"+"()"+sign+"*", 0, "1-5 @2")
		checkFind(t, "ab"+times(sign, 3)+"c", "(b)"+sign+"-c", 0, "1-6 1-2")
		checkFind(t, "ab"+times(sign, 3)+"c", "(b)"+sign+"?", 0, "1-3 1-2")
		checkFind(t, "a"+sign+"$", sign+"$", 0, "none")
	}
	checkFind(t, "^^", "^^", 1, "1-2")
	checkFind(t, "a]", "]", 0, "1-2")
}

func TestPatternEnds(t *testing.T) {
	checkFind(t, "abc", "^", 0, "0-0")
	checkFind(t, "abc", "^", 2, "2-2")
	checkFind(t, "abc", "$", 0, "3-3")
	checkFind(t, "abc", "^$", 0, "none")
	checkFind(t, "", "^$", 0, "0-0")
	checkFind(t, "abc", "^$", 3, "3-3")
	checkFind(t, "abc", "c$", 0, "2-3")
	checkFind(t, "abc", "b$", 0, "none")
	checkFind(t, "a$b", "$b", 0, "1-3")
	checkFind(t, "a$", "$$", 0, "1-2")
	checkFind(t, "a$b", "$$", 0, "none")
	checkFind(t, "a$$", "$*$", 0, "1-3")
	checkFind(t, "a$", "%$", 0, "1-2")
	checkFind(t, "a$", "%$$", 0, "1-2")
	checkFind(t, "a^b", "a^b", 0, "0-3")
	checkFind(t, "a^", "^^", 0, "none")
	checkFind(t, "^a", "^^", 0, "0-1")
	checkFind(t, "a^b", "%^", 0, "1-2")
	checkFind(t, "a^^", "a^*", 0, "0-3")
	checkFind(t, "b^", "(^)", 0, "1-2 1-2")
	checkFind(t, "b$", "($)", 0, "1-2 1-2")
	checkFind(t, "bc", "c($)", 0, "none")
	checkFind(t, "bc", "(c)$", 0, "1-2 1-2")
	checkFind(t, "bc", "c()$", 0, "1-2 @2")
	checkFind(t, "b($a", "%b($", 0, "1-3")
	checkFind(t, "b(", "%b($", 0, "none")
	checkFind(t, "a$", "[$]$", 0, "1-2")
	checkFind(t, "a$", "[a$", 0, "bad")
	checkFind(t, "a$", "%f$", 0, "bad")
	checkFind(t, "a$", "%b$", 0, "bad")
	checkFind(t, "a", "", 0, "0-0")
	checkFind(t, "a", "", 1, "1-1")
	checkFind(t, "", "", 0, "0-0")
}

// Which code comes where more than one would fit.
func TestPatternCodesInTheirOrder(t *testing.T) {
	full, large := times("a", 65536), times("a", 65537)
	for _, pattern := range []string{"a", "%", times("a", 201), "(", times("a*", 90) + "b"} {
		for _, init := range []int{0, 1, -1, 65537, 65538, math.MinInt, math.MaxInt} {
			checkFind(t, large, pattern, init, "large")
		}
		checkFindAll(t, large, pattern, "large")
		checkGsub(t, large, pattern, "x", 9, "large")
		checkGsub(t, large, pattern, "%", 0, "large")
		checkGsub(t, large, pattern, "%2", math.MinInt, "large")
	}
	checkFind(t, times("a", 1000000), "%", 7, "large")
	for _, pattern := range []string{"%", times("a", 201), "(", "[", "%1", "%0", times("a*", 90) + "b%"} {
		for _, init := range []int{0, -1, 65536, 65537, math.MinInt, math.MaxInt} {
			checkFind(t, full, pattern, init, "bad")
			checkFind(t, "a", pattern, init, "bad")
		}
		checkFindAll(t, full, pattern, "bad")
		checkGsub(t, full, pattern, "%", 9, "bad")
		checkGsub(t, full, pattern, "%2", 0, "bad")
		checkGsub(t, "", pattern, "%a", -1, "bad")
	}
	heavy := times("a*", 90) + "b"
	checkFind(t, full, heavy, -1, "init")
	checkFind(t, full, heavy, 65537, "init")
	checkFind(t, full, heavy, 0, "steps")
	checkFind(t, full, heavy, 65536, "none")
	checkFindAll(t, full, heavy, "steps")
	for _, repl := range []string{"%", "%a", "%2", "x%", "%%%", "% ", "%-"} {
		checkGsub(t, full, heavy, repl, 9, "repl")
		checkGsub(t, full, heavy, repl, 0, "repl")
		checkGsub(t, "b", "a", repl, 9, "repl")
		checkGsub(t, "", "", repl, math.MinInt, "repl")
	}
	checkGsub(t, full, heavy, "x", 9, "steps")
	checkGsub(t, full, heavy, "x", 0, "0 "+full)
	checkGsub(t, full, ".", "xx", 65536, "steps")
	checkGsub(t, full, ".", "xx", 40000, "long")
	checkFind(t, full, "^a", 65535, "65535-65536")
	if impl.PatternLarge != 1 || impl.PatternBad != 2 || impl.PatternInit != 3 || impl.PatternSteps != 4 || impl.PatternRepl != 5 || impl.PatternLong != 6 {
		t.Errorf("the codes have other numbers")
	}
	if impl.MaxPattern != 200 || impl.MaxCaptures != 16 || impl.MaxMatch != 50000 || impl.MaxFound != 10000 {
		t.Errorf("the bounds have other numbers")
	}
}
