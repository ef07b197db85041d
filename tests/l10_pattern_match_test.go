package tests

import (
	"math"
	"testing"

	"loop.example/g00002/impl"
)

func TestFindSingles(t *testing.T) {
	checkFind(t, "hello", "l", 0, "2-3")
	checkFind(t, "hello", "ll", 0, "2-4")
	checkFind(t, "hello", "lo", 0, "3-5")
	checkFind(t, "hello", "x", 0, "none")
	checkFind(t, "hello", "hello!", 0, "none")
	checkFind(t, "hello", "h.l", 0, "0-3")
	checkFind(t, "hello", "o.", 0, "none")
	checkFind(t, "a.b", "%.", 0, "1-2")
	checkFind(t, "ab1", "%a%d", 0, "1-3")
	checkFind(t, "x]y", "[]]", 0, "1-2")
	checkFind(t, "aXb", "%u", 0, "1-2")
	checkFind(t, "", "a", 0, "none")
	checkFind(t, "", ".", 0, "none")
}

// Each sign, with no byte, one and many that fit.
func TestFindSigns(t *testing.T) {
	for subject, want := range map[string][4]string{
		"xy":    {"0-2", "none", "0-2", "0-2"},
		"xay":   {"0-3", "0-3", "0-3", "0-3"},
		"xaaay": {"0-5", "0-5", "0-5", "none"},
		"xby":   {"none", "none", "none", "none"},
		"xaaab": {"none", "none", "none", "none"},
		"xaaa":  {"none", "none", "none", "none"},
		"x":     {"none", "none", "none", "none"},
		"xxay":  {"1-4", "1-4", "1-4", "1-4"},
	} {
		for i, pattern := range []string{"xa*y", "xa+y", "xa-y", "xa?y"} {
			checkFind(t, subject, pattern, 0, want[i])
			checkFind(t, subject, "x[a]"+pattern[2:], 0, want[i])
		}
	}
	for subject, want := range map[string][4]string{
		"":     {"0-0", "none", "0-0", "0-0"},
		"b":    {"0-0", "none", "0-0", "0-0"},
		"a":    {"0-1", "0-1", "0-0", "0-1"},
		"aaa":  {"0-3", "0-3", "0-0", "0-1"},
		"aaab": {"0-3", "0-3", "0-0", "0-1"},
		"baaa": {"0-0", "1-4", "0-0", "0-0"},
	} {
		for i, pattern := range []string{"a*", "a+", "a-", "a?"} {
			checkFind(t, subject, pattern, 0, want[i])
		}
	}
	for subject, want := range map[string][4]string{
		"":    {"0-0", "none", "0-0", "0-0"},
		"b":   {"none", "none", "none", "none"},
		"a":   {"0-1", "0-1", "0-1", "0-1"},
		"aaa": {"0-3", "0-3", "0-3", "none"},
		"aab": {"none", "none", "none", "none"},
	} {
		for i, pattern := range []string{"^a*$", "^a+$", "^a-$", "^a?$"} {
			checkFind(t, subject, pattern, 0, want[i])
		}
	}
}

// The longest leads to no match, and a shorter one does; or the shortest, and a longer one.
func TestFindTriesAgain(t *testing.T) {
	checkFind(t, "aaa", "a*a", 0, "0-3")
	checkFind(t, "aaa", "a*aa", 0, "0-3")
	checkFind(t, "aaa", "a*aaa", 0, "0-3")
	checkFind(t, "aaa", "a*aaaa", 0, "none")
	checkFind(t, "aaa", "a+a", 0, "0-3")
	checkFind(t, "aaa", "a+aaa", 0, "none")
	checkFind(t, "aaa", "a?aaa", 0, "0-3")
	checkFind(t, "aaa", "a?aa", 0, "0-3")
	checkFind(t, "aaa", "a?a?a?aaa", 0, "0-3")
	checkFind(t, "aaab", ".*b", 0, "0-4")
	checkFind(t, "abab", ".*b", 0, "0-4")
	checkFind(t, "abab", ".-b", 0, "0-2")
	checkFind(t, "abac", ".-c", 0, "0-4")
	checkFind(t, "aabab", "a*ab", 0, "0-3")
	checkFind(t, "aabab", "(a*)ab", 0, "0-3 0-1")
	checkFind(t, "aaaa", "(a*)(a*)", 0, "0-4 0-4 4-4")
	checkFind(t, "aaaa", "(a-)(a*)", 0, "0-4 0-0 0-4")
	checkFind(t, "aaaa", "(a*)(a+)", 0, "0-4 0-3 3-4")
	checkFind(t, "aaaa", "(a+)(a+)(a+)", 0, "0-4 0-2 2-3 3-4")
	checkFind(t, "aaaa", "(a?)(a?)(a+)$", 0, "0-4 0-1 1-2 2-4")
	checkFind(t, "aaaa", "(a-)(a-)$", 0, "0-4 0-0 0-4")
	checkFind(t, "aaaa", "^(a-)(a?)$", 0, "0-4 0-3 3-4")
	checkFind(t, "a,b,c", "(.*),(.*)", 0, "0-5 0-3 4-5")
	checkFind(t, "a,b,c", "(.-),(.*)", 0, "0-5 0-1 2-5")
	checkFind(t, "a,b,c", "(.-),(.-)$", 0, "0-5 0-1 2-5")
}

// Captures inside what is tried again: those of the way that led to the match are told, nothing of the others.
func TestFindCapturesOfTheLastWay(t *testing.T) {
	checkFind(t, "aaab", "a*()a", 0, "0-3 @2")
	checkFind(t, "aaab", "a*()(a*)()b", 0, "0-4 @3 3-3 @3")
	checkFind(t, "aaab", "a-()(a*)()b", 0, "0-4 @0 0-3 @3")
	checkFind(t, "aaab", "a?()(a)()b", 0, "1-4 @2 2-3 @3")
	checkFind(t, "aab", "(a*(.)%2)", 0, "0-2 0-2 0-1")
	checkFind(t, "xaabb", "(a*)(b*)%1", 0, "0-0 0-0 0-0")
	checkFind(t, "aabbaa", "(a+)(b+)%1$", 0, "0-6 0-2 2-4")
	checkFind(t, "aabba", "(a+)(b+)%1$", 0, "1-5 1-2 2-4")
	checkFind(t, "aabba", "(a+)(b+)%1", 0, "1-5 1-2 2-4")
	checkFind(t, "abcbcd", "(.-)(bc)()d", 0, "0-6 0-3 3-5 @5")
	checkFind(t, "key = value", "(%w+)%s*=%s*(%w+)", 0, "0-11 0-3 6-11")
	checkFind(t, "xx key=1", "()(%w+)()=()", 0, "3-7 @3 3-6 @6 @7")
	checkFind(t, "aXbX", "((a)(.-)X)$", 0, "0-4 0-4 0-1 1-3")
}

func TestFindPlaces(t *testing.T) {
	checkFind(t, "abc", "()", 0, "0-0 @0")
	checkFind(t, "abc", "()", 3, "3-3 @3")
	checkFind(t, "abc", "()a", 0, "0-1 @0")
	checkFind(t, "abc", "a()b", 0, "0-2 @1")
	checkFind(t, "abc", "b()", 0, "1-2 @2")
	checkFind(t, "abc", "c()", 0, "2-3 @3")
	checkFind(t, "abc", "()$", 0, "3-3 @3")
	checkFind(t, "abc", "()()b()", 0, "1-2 @1 @1 @2")
	checkFind(t, "abc", "(()b())", 0, "1-2 1-2 @1 @2")
	checkFind(t, "", "()", 0, "0-0 @0")
	f, _, _ := impl.Find("abc", "a()b", 0)
	if len(f.Caps) != 1 || f.Caps[0] != (impl.Capture{Place: true, From: 1, To: 1}) {
		t.Errorf("a place: %+v", f)
	}
	f, _, _ = impl.Find("abc", "b(.)", 0)
	if len(f.Caps) != 1 || f.Caps[0] != (impl.Capture{From: 2, To: 3}) {
		t.Errorf("a capture: %+v", f)
	}
	f, _, _ = impl.Find("abc", "b(x*)", 0)
	if len(f.Caps) != 1 || f.Caps[0] != (impl.Capture{From: 2, To: 2}) {
		t.Errorf("a capture of nothing isn't a place: %+v", f)
	}
}

// What a capture holds, matched again.
func TestFindHeldAgain(t *testing.T) {
	checkFind(t, "abcabc", "(abc)%1", 0, "0-6 0-3")
	checkFind(t, "abcabd", "(abc)%1", 0, "none")
	checkFind(t, "abcab", "(abc)%1", 0, "none")
	checkFind(t, "abab", "(a)(b)%1%2", 0, "0-4 0-1 1-2")
	checkFind(t, "abba", "(a)(b)%2%1", 0, "0-4 0-1 1-2")
	checkFind(t, "abbb", "(a)(b)%2%2", 0, "0-4 0-1 1-2")
	checkFind(t, `say "it's"`, `(["'])(.-)%1`, 0, "4-10 4-5 5-9")
	checkFind(t, "a", "(b*)%1", 0, "0-0 0-0")
	checkFind(t, "ab", "(b*)%1b", 0, "1-2 1-1")
	checkFind(t, "", "(b*)%1%1", 0, "0-0 0-0")
	checkFind(t, "aab", "(a)%1(b)", 0, "0-3 0-1 2-3")
	checkFind(t, "xabxab", "(x(a)b)%1", 0, "0-6 0-3 1-2")
	checkFind(t, "xabaxaba", "(x(a)b%2)%1", 0, "0-8 0-4 1-2")
	checkFind(t, "abcdefghabcdefgh", "(a)(b)(c)(d)(e)(f)(g)(h)%1%2%3%4%5%6%7%8", 0, "0-16 0-1 1-2 2-3 3-4 4-5 5-6 6-7 7-8")
	checkFind(t, "a\x00b\xffa\x00b\xff", "(a.b.)%1", 0, "0-8 0-4")
	checkFind(t, "abc", "()%1", 0, "none")
	checkFind(t, "abc", "a()%1b", 0, "none")
	checkFind(t, "", "()%1", 0, "none")
	checkFind(t, "aa", "(a)()%1", 0, "0-2 0-1 @1")
	checkFind(t, "aa", "(a)()%2", 0, "none")
}

func TestFindBalance(t *testing.T) {
	checkFind(t, "a(b(c)d)e", "%b()", 0, "1-8")
	checkFind(t, "a(b(c)d)e", "%b()", 2, "3-6")
	checkFind(t, "()", "%b()", 0, "0-2")
	checkFind(t, "x()y", "x%b()y", 0, "0-4")
	checkFind(t, "((a)", "%b()", 0, "1-4")
	checkFind(t, "(((", "%b()", 0, "none")
	checkFind(t, ")))", "%b()", 0, "none")
	checkFind(t, ")(", "%b()", 0, "none")
	checkFind(t, "a", "%b()", 0, "none")
	checkFind(t, "", "%b()", 0, "none")
	checkFind(t, "(", "%b()", 0, "none")
	checkFind(t, "a\"b\"c\"", "%b\"\"", 0, "1-4")
	checkFind(t, "xx", "%bxx", 0, "0-2")
	checkFind(t, "xaxax", "%bxx", 0, "0-3")
	checkFind(t, "xaxax", "%bxxax", 0, "0-5")
	checkFind(t, "x", "%bxx", 0, "none")
	checkFind(t, "xab", "%bxx", 0, "none")
	checkFind(t, "(a)(b)", "%b()%b()", 0, "0-6")
	checkFind(t, "(a)(b)", "(%b())(%b())", 0, "0-6 0-3 3-6")
	checkFind(t, "(a)b)", "%b()$", 0, "none")
	checkFind(t, "a[[b]]", "%b[]", 0, "1-6")
	checkFind(t, "\x00\x00\xff\xff", "%b\x00\xff", 0, "0-4")
	checkFind(t, "aabb", "%bab", 0, "0-4")
	checkFind(t, "if x if y end end", "%bie", 0, "0-15")
}

func TestFindBorder(t *testing.T) {
	checkFind(t, "THE (quick) fox", "%f[%a]%a+%f[%A]", 0, "0-3")
	checkFind(t, "THE (quick) fox", "%f[%a]%a+%f[%A]", 1, "5-10")
	checkFind(t, "THE (quick) fox", "%f[%a]%a+%f[%A]", 11, "12-15")
	checkFind(t, "ab", "%f[a]", 0, "0-0")
	checkFind(t, "ab", "%f[b]", 0, "1-1")
	checkFind(t, "bb", "%f[b]", 1, "none")
	checkFind(t, "ab", "%f[^a]", 0, "1-1")
	checkFind(t, "ab", "%f[^b]", 0, "2-2")
	checkFind(t, "ab", "%f[^ab]", 0, "2-2")
	checkFind(t, "", "%f[a]", 0, "none")
	checkFind(t, "", "%f[^a]", 0, "none")
	checkFind(t, "", "%f[\x00]", 0, "none")
	checkFind(t, "ab", "%f[\x00]", 0, "2-2")
	checkFind(t, "ab", "%f[\x00]", 2, "2-2")
	checkFind(t, "a\x00b", "%f[\x00]", 0, "1-1")
	checkFind(t, "a\x00b", "%f[\x00]", 2, "3-3")
	checkFind(t, "\x00a", "%f[\x00]", 0, "2-2")
	checkFind(t, "a\x00", "%f[%z]", 0, "bad")
	checkFind(t, "a\x00", "%f[\x00]", 2, "none")
	checkFind(t, "ab", "%f[%C]", 0, "0-0")
	checkFind(t, "ab", "%f[%c]", 0, "2-2")
	checkFind(t, "ab", "%f[\x00a]", 0, "2-2")
	checkFind(t, "ab", "%f[\x00b]", 0, "1-1")
	checkFind(t, "\xffa", "%f[\xff]", 0, "0-0")
	checkFind(t, "a\xff", "%f[^\xff]", 0, "2-2")
	checkFind(t, "ab", "%f[%w]%w+%f[%W]$", 0, "0-2")
}

func TestFindBytes(t *testing.T) {
	checkFind(t, "a\x00b", "\x00", 0, "1-2")
	checkFind(t, "a\x00b", "a.b", 0, "0-3")
	checkFind(t, "a\x00\x00b", "\x00+", 0, "1-3")
	checkFind(t, "a\x00\x00b", "[\x00]*b", 0, "1-4")
	checkFind(t, "a\xffb", "\xff", 0, "1-2")
	checkFind(t, "a\xffb", "[\x80-\xff]", 0, "1-2")
	checkFind(t, "a\xff\xfeb", "[^a-z]+", 0, "1-3")
	checkFind(t, "\xc3\xa9", "^.$", 0, "none")
	checkFind(t, "\xc3\xa9", "^..$", 0, "0-2")
	checkFind(t, "é", "[é]", 0, "0-1")
	checkFind(t, "\xff\x00\xff", "\xff\x00\xff$", 0, "0-3")
	checkFind(t, "\x00", "%c", 0, "0-1")
	checkFind(t, "a\nb", "a.b", 0, "0-3")
}

func TestFindInit(t *testing.T) {
	checkFind(t, "hello", "l+", 0, "2-4")
	checkFind(t, "hello", "l+", 3, "3-4")
	checkFind(t, "hello", "l+", 4, "none")
	checkFind(t, "hello", "l+", 5, "none")
	checkFind(t, "hello", "l*", 4, "4-4")
	checkFind(t, "hello", "l*", 5, "5-5")
	checkFind(t, "hello", "^l", 0, "none")
	checkFind(t, "hello", "^l", 2, "2-3")
	checkFind(t, "hello", "^l", 5, "none")
	checkFind(t, "hello", "^o", 4, "4-5")
	checkFind(t, "hello", "^", 5, "5-5")
	checkFind(t, "hello", "$", 5, "5-5")
	checkFind(t, "hello", "", 5, "5-5")
	checkFind(t, "hello", "x*$", 0, "5-5")
	checkFind(t, "", "", 0, "0-0")
	for _, pattern := range []string{"", "^", "l", "$", "x*"} {
		for _, init := range []int{-1, -5, 6, 7, math.MinInt, math.MinInt + 1, math.MaxInt - 1, math.MaxInt} {
			checkFind(t, "hello", pattern, init, "init")
		}
		checkFind(t, "", pattern, 1, "init")
		checkFind(t, "", pattern, -1, "init")
	}
	full := times("a", 65536)
	checkFind(t, full, "", 65536, "65536-65536")
	checkFind(t, full, "", 65537, "init")
	checkFind(t, full, "a$", 30000, "steps")
	checkFind(t, full, "a$", 60000, "65535-65536")
	checkFind(t, "(b)c", "%f[b]b%f[)]", 1, "1-2")
}
