package tests

import (
	"math"
	"reflect"
	"strconv"
	"strings"
	"testing"
	"unsafe"

	"loop.example/g00002/impl"
)

func TestFindAllMatches(t *testing.T) {
	checkFindAll(t, "a1b22", "%d+", "1-2, 3-5")
	checkFindAll(t, "a1b22", "%d*", "0-0, 1-2, 2-2, 3-5, 5-5")
	checkFindAll(t, "a1b22", "%d-", "0-0, 1-1, 2-2, 3-3, 4-4, 5-5")
	checkFindAll(t, "a1b22", "%d?", "0-0, 1-2, 2-2, 3-4, 4-5, 5-5")
	checkFindAll(t, "a1b22", "%a", "0-1, 2-3")
	checkFindAll(t, "a1b22", "x", "")
	checkFindAll(t, "a1b22", "%a%d", "0-2, 2-4")
	checkFindAll(t, "abc", "", "0-0, 1-1, 2-2, 3-3")
	checkFindAll(t, "abc", "$", "3-3")
	checkFindAll(t, "abc", "c?$", "2-3, 3-3")
	checkFindAll(t, "abc", ".*", "0-3, 3-3")
	checkFindAll(t, "abc", ".+", "0-3")
	checkFindAll(t, "abc", ".-", "0-0, 1-1, 2-2, 3-3")
	checkFindAll(t, "", "", "0-0")
	checkFindAll(t, "", "a*", "0-0")
	checkFindAll(t, "", "a", "")
	checkFindAll(t, "", "$", "0-0")
	checkFindAll(t, "aaa", "aa", "0-2")
	checkFindAll(t, "aaaa", "aa", "0-2, 2-4")
	checkFindAll(t, "abab", "()", "0-0 @0, 1-1 @1, 2-2 @2, 3-3 @3, 4-4 @4")
	checkFindAll(t, "a=1, b=2", "(%w)=(%w)", "0-3 0-1 2-3, 5-8 5-6 7-8")
	checkFindAll(t, "a=1, b=2", "()(%w)=", "0-2 @0 0-1, 5-7 @5 5-6")
	checkFindAll(t, "THE fox", "%f[%a]%a", "0-1, 4-5")
	checkFindAll(t, "(a)(b(c))", "%b()", "0-3, 3-9")
}

// ^ holds at each start: behind a match that isn't the next one ends it.
func TestFindAllFixed(t *testing.T) {
	checkFindAll(t, "aab", "^a", "0-1, 1-2")
	checkFindAll(t, "baa", "^a", "")
	checkFindAll(t, "aaba", "^a", "0-1, 1-2")
	checkFindAll(t, "aab", "^a*", "0-2, 2-2, 3-3")
	checkFindAll(t, "aba", "^a?", "0-1, 1-1, 2-3, 3-3")
	checkFindAll(t, "abc", "^", "0-0, 1-1, 2-2, 3-3")
	checkFindAll(t, "abc", "^$", "")
	checkFindAll(t, "abc", "^.$", "")
	checkFindAll(t, "", "^$", "0-0")
	checkFindAll(t, "ab", "^.()", "0-1 @1, 1-2 @2")
}

func TestFindAllCounts(t *testing.T) {
	for _, count := range []int{9999, 10000, 10001, 20000} {
		told := min(count, 10000)
		list, code := impl.FindAll(times("a", count), "a")
		if code != 0 || len(list) != told || foundText(list[told-1]) != strconv.Itoa(told-1)+"-"+strconv.Itoa(told) {
			t.Errorf("%d matches: %d told, code %d", count, len(list), code)
		}
		list, code = impl.FindAll(times("a", count-1), "")
		if code != 0 || len(list) != told || foundText(list[told-1]) != strconv.Itoa(told-1)+"-"+strconv.Itoa(told-1) {
			t.Errorf("%d empty matches: %d told, code %d", count, len(list), code)
		}
		list, code = impl.FindAll(times("x", 30000)+times("a", count), "^.")
		if code != 0 || len(list) != 10000 {
			t.Errorf("%d matches from a start on: %d told, code %d", count, len(list), code)
		}
	}
	checkFindAll(t, times("a", 65536), "", findAllText(modelFindAll(times("a", 10000), "")))
	list, code := impl.FindAll(times("a", 65536), "()")
	if code != 0 || len(list) != 10000 || foundText(list[9999]) != "9999-9999 @9999" {
		t.Errorf("places: %d, code %d", len(list), code)
	}
}

func TestGsubMost(t *testing.T) {
	for most, want := range map[int]string{
		math.MinInt: "0 abcabc", -1: "0 abcabc", 0: "0 abcabc", 1: "1 xbcabc", 2: "2 xbcxbc", 3: "2 xbcxbc", math.MaxInt: "2 xbcxbc",
	} {
		checkGsub(t, "abcabc", "a", "x", most, want)
	}
	for most, want := range map[int]string{-1: "0 ab", 0: "0 ab", 1: "1 -ab", 2: "2 -a-b", 3: "3 -a-b-", 4: "3 -a-b-"} {
		checkGsub(t, "ab", "", "-", most, want)
	}
	checkGsub(t, "hello world", "o", "0", 9, "2 hell0 w0rld")
	checkGsub(t, "hello world", "o", "0", 1, "1 hell0 world")
	checkGsub(t, "hello world", "x", "0", 9, "0 hello world")
	checkGsub(t, "hello world", "^h", "", 9, "1 ello world")
	checkGsub(t, "aab", "^a", "x", 9, "2 xxb")
	checkGsub(t, "a1b22", "%d*", "<%0>", 9, "5 <>a<1><>b<22><>")
	checkGsub(t, "a1b22", "%d*", "<%0>", 4, "4 <>a<1><>b<22>")
	checkGsub(t, "abc", "%w", "%0%0", 9, "3 aabbcc")
	checkGsub(t, "abc", "", "-", 9, "4 -a-b-c-")
	checkGsub(t, "", "", "-", 9, "1 -")
	checkGsub(t, "", "a", "-", 9, "0 ")
	checkGsub(t, "abc", ".*", "", 9, "2 ")
	checkGsub(t, "abc", "b*", "", 9, "4 ac")
	checkGsub(t, "a\x00b\xff", "[\x00\xff]", "\xfe\x00", 9, "2 a\xfe\x00b\xfe\x00")
}

// More matches than FindAll would tell are replaced too.
func TestGsubManyMatches(t *testing.T) {
	for _, count := range []int{9999, 10000, 10001, 40000} {
		checkGsub(t, times("a", count), "a", "b", math.MaxInt, strconv.Itoa(count)+" "+times("b", count))
		checkGsub(t, times("a", count), "", "", math.MaxInt, strconv.Itoa(count+1)+" "+times("a", count))
	}
	checkGsub(t, times("a", 65536), "", "", math.MaxInt, "65537 "+times("a", 65536))
	checkGsub(t, times("a", 65536), "", "", 65536, "65536 "+times("a", 65536))
	checkGsub(t, times("a", 65536), "^", "%0%1", math.MaxInt, "65537 "+times("a", 65536))
}

func TestGsubReplacements(t *testing.T) {
	checkGsub(t, "k=v", "(%w)=(%w)", "%2=%1", 9, "1 v=k")
	checkGsub(t, "k=v", "(%w)=(%w)", "%0%0", 9, "1 k=vk=v")
	checkGsub(t, "k=v", "%w", "<%1>", 9, "2 <k>=<v>")
	checkGsub(t, "k=v", "()=", "%1", 9, "1 k2v")
	checkGsub(t, "k=v", "()", "%1", 9, "4 1k2=3v4")
	checkGsub(t, "k=v", "()=()", "%2%1%0", 9, "1 k32=v")
	checkGsub(t, "ab", "b", "%1%%", 9, "1 ab%")
	checkGsub(t, "ab", "b", "%%1", 9, "1 a%1")
	checkGsub(t, "ab", "b", "%%%%", 9, "1 a%%")
	checkGsub(t, "ab", "b", "%%%0", 9, "1 a%b")
	checkGsub(t, "ab", "b", "%01", 9, "1 ab1")
	checkGsub(t, "ab", "(b)", "%11", 9, "1 ab1")
	checkGsub(t, "ab", "b", "", 9, "1 a")
	checkGsub(t, "ab", "b", "a", 9, "1 aa")
	checkGsub(t, "ab", "a", "%0a", 9, "1 aab")
	checkGsub(t, "ab", "(x*)(.)", "[%1|%2]", 9, "2 [|a][|b]")
	checkGsub(t, "ab", "((a)(b))", "%3%2%1", 9, "1 baab")
	checkGsub(t, "abcdefghi", times("(.)", 9), "%9%8%7%6%5%4%3%2%1", 9, "1 ihgfedcba")
	checkGsub(t, "abcdefghijklmnop", times("(.)", 16), "%9%1%0", 9, "1 iaabcdefghijklmnop")
	checkGsub(t, "abcdefghij", times("(.)", 10), "%10", 9, "1 a0")
	checkGsub(t, times("a", 12345)+"b", "()b", "%1", 9, "1 "+times("a", 12345)+"12346")
	checkGsub(t, "abc", "(a)(b)(c)", "1%1%12%2%23%3%3%%", 9, "1 1aa2bb3cc%")
	checkGsub(t, "a b", "(%a*)()", "%2%1.%1%2", 9, "4 2a.a2"+"2.2"+" "+"4b.b4"+"4.4")
}

// What a replacement can't name.
func TestGsubWrongReplacements(t *testing.T) {
	for captures := range 17 {
		pattern := times("()", captures)
		for number := range 10 {
			want := "0 abc"
			if number > max(captures, 1) {
				want = "repl"
			}
			checkGsub(t, "abc", pattern, "%"+strconv.Itoa(number), 0, want)
			checkGsub(t, "abc", "x"+pattern, "y%"+strconv.Itoa(number)+"z", 9, want)
		}
	}
	for b := range 256 {
		text := string([]byte{byte(b)})
		if strings.Contains("%0123456789", text) {
			continue
		}
		checkGsub(t, "abc", "b", "%"+text, 9, "repl")
		checkGsub(t, "abc", "(b)", "x%"+text+"y", 9, "repl")
		checkGsub(t, "abc", "b"+times("()", 16), "%"+text, 9, "repl")
		checkGsub(t, "abc", "b", "%%"+text, 9, "1 a%"+text+"c")
		checkGsub(t, "abc", "b", text, 9, "1 a"+text+"c")
	}
	for _, repl := range []string{"%", "x%", "%%%", "%0%", "%2", "%0%2", "%1%9", "%3x", "%é", times("%0", 100000) + "%"} {
		checkGsub(t, "abc", "b", repl, 9, "repl")
		checkGsub(t, "abc", "x", repl, 9, "repl")
		checkGsub(t, "abc", "b", repl, 0, "repl")
		checkGsub(t, "", "b", repl, -1, "repl")
	}
}

// Texts of as many bytes as are allowed, and of one more.
func TestGsubLong(t *testing.T) {
	full := times("a", 65535)
	checkGsub(t, full+"b", "b", "c", 9, "steps")
	checkGsub(t, "b"+full, "b", "c", 1, "1 c"+full)
	checkGsub(t, "b"+full, "b", "", 1, "1 "+full)
	checkGsub(t, "b"+full, "b", "cc", 1, "long")
	checkGsub(t, full, "^", "c", 1, "1 c"+full)
	checkGsub(t, full, "^", "cc", 1, "long")
	checkGsub(t, full, "^", "cc", 0, "0 "+full)
	checkGsub(t, "b", "b", times("c", 65536), 9, "1 "+times("c", 65536))
	checkGsub(t, "b", "b", times("c", 65537), 9, "long")
	checkGsub(t, "b", "x", times("c", 65537), 9, "0 b")
	checkGsub(t, "b", "b", times("c", 65537), 0, "0 b")
	checkGsub(t, "bb", "b", times("c", 32768), 9, "2 "+times("c", 65536))
	checkGsub(t, "bb", "b", times("c", 32769), 9, "long")
	checkGsub(t, "bdb", "b", times("c", 32768), 9, "long")
	checkGsub(t, "bdb", "b", times("c", 32767), 9, "2 "+times("c", 32767)+"d"+times("c", 32767))
	checkGsub(t, times("a", 32768), "", "c", 32768, "32768 "+times("ca", 32768))
	checkGsub(t, times("a", 32768), "", "c", 32769, "long")
	checkGsub(t, times("a", 1024), "^.*$", times("%0", 64), 9, "2 "+times("a", 65536))
	checkGsub(t, times("a", 1024), "^.*$", times("%0", 64)+"b", 9, "long")
	checkGsub(t, times("a", 1024), "^.*$", times("%0", 65), 9, "long")
	// Steps are looked at ahead of it.
	checkGsub(t, times("a", 49999), "a", "cc", 50000, "long")
	checkGsub(t, times("a", 50000), "a", "cc", 50000, "long")
	checkGsub(t, times("a", 50001), "a", "cc", 50001, "steps")
	checkGsub(t, "b"+times("a", 60000), "b", times("c", 60000), 2, "steps")
	checkGsub(t, "b"+times("a", 60000), "b", times("c", 60000), 1, "long")
}

// Replacements that are very long, or name very much: an answer comes in a time that the steps bound.
func TestGsubGreatReplacements(t *testing.T) {
	full := times("a", 65536)
	for _, c := range []struct {
		subject, pattern, repl string
		want                   string
	}{
		{full, "", times("%0", 1000000), "65537 " + full},
		{times("a", 49999), "()", times("%0", 1000000), "50000 " + times("a", 49999)},
		{times("a", 12000), "(x*)()", times("%1%0", 1000000), "12001 " + times("a", 12000)},
		{times("a", 32767), "", "b" + times("%0", 1000000), "32768 " + times("ba", 32767) + "b"},
		{times("a", 8000), "(b*)(.)", times("%1", 500000) + "%2" + times("%1", 500000), "8000 " + times("a", 8000)},
		{times("a", 40000), "^.*", times("%0", 1000000), "long"},
		{full, "", times("%%", 1000000), "long"},
		{full, "", times("x", 1000000), "long"},
		{"", "", times("%0", 1000000), "1 "},
		{"a", "b", times("%0", 1000000), "0 a"},
	} {
		if got := gsubText(impl.Gsub(c.subject, c.pattern, c.repl, math.MaxInt)); got != c.want {
			t.Errorf("Gsub(%s, %s, %s) = %s, not %s", short(c.subject), short(c.pattern), short(c.repl), short(got), short(c.want))
		}
	}
}

// Promise 16 by hand: subjects, each with patterns of all kinds.
func TestFindIsTheFirstOfFindAll(t *testing.T) {
	subjects := []string{"", "a", "abc", "aaa", "hello world", "key = value, k2 = v2", "((a)b)(c", "a\x00b\xffc", times("ab ", 300), times("a", 9998), times("x", 3000) + "b"}
	patterns := []string{
		"", "^", "$", "^$", "a", ".", ".*", ".-", "a?", "b+", "(a)", "()", "(a*)(b*)", "%w+", "(%w+)%s*=%s*(%w+)", "%b()", "%f[%w]%w+", "(.)%1", "x*$", "^a*", "[^ab]",
		"(()(a))", "b$", "\x00", "[\x80-\xff]", ".$", "(.-)b", "%s*",
	}
	for _, subject := range subjects {
		for _, pattern := range patterns {
			checkPatternByModel(t, subject, pattern)
		}
	}
}

// apart looks that a text shares no memory with another.
func apart(t *testing.T, what, a, b string) {
	t.Helper()
	if a == "" || b == "" {
		return
	}
	first, other := uintptr(unsafe.Pointer(unsafe.StringData(a))), uintptr(unsafe.Pointer(unsafe.StringData(b)))
	if first < other+uintptr(len(b)) && other < first+uintptr(len(a)) {
		t.Errorf("%s shares memory with an argument", what)
	}
}

// Chapter 1: an answer shares memory with no argument, no two lists share any, and the same call answers the same again.
func TestPatternAnswersOwnTheirMemory(t *testing.T) {
	for _, pattern := range []string{"(.)()", "(a)", "()", "(.)(.)(.)", times("()", 16), "(a)(b)(c)(d)(e)"} {
		subject := times("abcde", 40)
		all, _ := impl.FindAll(subject, pattern)
		want := findAllText(all, 0)
		first, _, _ := impl.Find(subject, pattern, 0)
		for i, f := range all {
			caps := f.Caps[:cap(f.Caps)]
			for j := range caps {
				caps[j] = impl.Capture{From: 1000*i + j}
			}
		}
		for i, f := range all {
			for j, c := range f.Caps[:cap(f.Caps)] {
				if c != (impl.Capture{From: 1000*i + j}) {
					t.Errorf("%s: the captures of match %d share memory with others", short(pattern), i)
				}
			}
		}
		clear(first.Caps[:cap(first.Caps)])
		again, code := impl.FindAll(subject, pattern)
		if got := findAllText(again, code); got != want {
			t.Errorf("%s: another answer: %s, not %s", short(pattern), short(got), short(want))
		}
		checkFirstOfAll(t, subject, pattern)
	}
	subject, pattern, repl := strings.Clone("hello world"), strings.Clone("o"), strings.Clone("0")
	for _, most := range []int{-1, 0, 1, 9} {
		text, _, _ := impl.Gsub(subject, pattern, repl, most)
		apart(t, "the text", text, subject)
	}
	text, _, _ := impl.Gsub(subject, strings.Clone("x"), repl, 9)
	apart(t, "the text without a match", text, subject)
	text, _, _ = impl.Gsub(subject, ".*", "%0", 9)
	apart(t, "the whole text", text, subject)
	text, _, _ = impl.Gsub(pattern, ".", subject, 9)
	apart(t, "the replacement", text, subject)
}

func TestPatternSameAnswerAgain(t *testing.T) {
	subject := times("key=value; ", 50)
	for _, pattern := range []string{"(%w+)=(%w+)", "", "()", "%b=;", "%f[%w]%w+", "(.-);", "x", "%", "(k)(e)(y)"} {
		type answers struct {
			first       impl.Found
			is          bool
			code        int
			all         []impl.Found
			allCode     int
			text        string
			count, last int
		}
		ask := func() (a answers) {
			a.first, a.is, a.code = impl.Find(subject, pattern, 3)
			a.all, a.allCode = impl.FindAll(subject, pattern)
			a.text, a.count, a.last = impl.Gsub(subject, pattern, "<%0%1>", 20)
			return a
		}
		if first, second := ask(), ask(); !reflect.DeepEqual(first, second) {
			t.Errorf("%s: two answers", short(pattern))
		}
	}
}
