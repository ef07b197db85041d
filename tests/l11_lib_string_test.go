package tests

import (
	"fmt"
	"testing"

	"loop.example/g00002/impl"
)

func TestStringLen(t *testing.T) {
	checkRows(t, "string.len", `
		""            => 0
		"a"           => 1
		"a\x00b\xff"  => 4
		"é"           => 2
		123           => 3
		-1.5          => 4
		1e100         => 6
		nan           => 3
		"x"*65536     => 65536
		              => #1 string expected, got no value
		nil           => #1 string expected, got nil
		true          => #1 string expected, got boolean
		"ab" true     => 2
	`)
}

func TestStringSub(t *testing.T) {
	checkRows(t, "string.sub", `
		"hello"               => "hello"
		"hello" 1             => "hello"
		"hello" 2             => "ello"
		"hello" 5             => "o"
		"hello" 6             => ""
		"hello" 7             => ""
		"hello" 0             => "hello"
		"hello" -1            => "o"
		"hello" -2            => "lo"
		"hello" -5            => "hello"
		"hello" -6            => "hello"
		"hello" -7            => "hello"
		"hello" min           => "hello"
		"hello" max           => ""
		"hello" 1 0           => ""
		"hello" 1 1           => "h"
		"hello" 1 -1          => "hello"
		"hello" 1 -5          => "h"
		"hello" 1 -6          => ""
		"hello" 1 -7          => ""
		"hello" 1 5           => "hello"
		"hello" 1 6           => "hello"
		"hello" 1 max         => "hello"
		"hello" 1 min         => ""
		"hello" 0 0           => ""
		"hello" 0 1           => "h"
		"hello" -1 -1         => "o"
		"hello" -3 -2         => "ll"
		"hello" -2 -3         => ""
		"hello" 2 4           => "ell"
		"hello" 4 2           => ""
		"hello" 3 3           => "l"
		"hello" -9 2          => "he"
		"hello" -9 -9         => ""
		"hello" 6 6           => ""
		"hello" 9 9           => ""
		"hello" 5 99          => "o"
		"hello" min max       => "hello"
		"hello" max min       => ""
		"hello" min min       => ""
		"hello" max max       => ""
		"" 1                  => ""
		"" 0 0                => ""
		"" -1 -1              => ""
		"" min max            => ""
		"hello" nil 2         => "he"
		"hello" 2 nil         => "ello"
		"hello" nil nil       => "hello"
		"hello" 2.0 -2.0      => "ell"
		"hello" 2.5           => #2 number has no integer representation
		"hello" 1 2.5         => #3 number has no integer representation
		"hello" nan inf       => #2 number has no integer representation
		"hello" "1"           => #2 number expected, got string
		"hello" 1 "2"         => #3 number expected, got string
		"hello" true          => #2 number expected, got boolean
		"hello" nil false     => #3 number expected, got boolean
		123 2 99              => "23"
		-1.5 1 2              => "-1"
		true "1"              => #1 string expected, got boolean
		nil                   => #1 string expected, got nil
		                      => #1 string expected, got no value
		"hello" 2 3 "x" nil   => "el"
		"a\x00\xffb" 2 3      => "\x00\xff"
		"x"*65536 2           => "x"*65535
		"x"*65536 -65536 65536 => "x"*65536
	`)
}

func TestStringUpperLower(t *testing.T) {
	checkRows(t, "string.upper", `
		"aMz019_"     => "AMZ019_"
		""            => ""
		"é"           => "é"
		"\xe9\xff"    => "\xe9\xff"
		1e100         => "1E+100"
		nan           => "NAN"
		"x"*65536     => "X"*65536
		              => #1 string expected, got no value
		nil           => #1 string expected, got nil
		false         => #1 string expected, got boolean
		"a" nil true  => "A"
	`)
	checkRows(t, "string.lower", `
		"aMZ019_"     => "amz019_"
		""            => ""
		"É"           => "É"
		"\xc9\xff"    => "\xc9\xff"
		12            => "12"
		-inf          => "-inf"
		"X"*65536     => "x"*65536
		              => #1 string expected, got no value
		nil           => #1 string expected, got nil
		true          => #1 string expected, got boolean
		"A" nil true  => "a"
	`)
}

func TestStringReverse(t *testing.T) {
	checkRows(t, "string.reverse", `
		"abc"         => "cba"
		""            => ""
		"a"           => "a"
		"a\x00\xff"   => "\xff\x00a"
		"é"           => "\xa9\xc3"
		123           => "321"
		-1.5          => "5.1-"
		"ab"*32768    => "ba"*32768
		              => #1 string expected, got no value
		nil           => #1 string expected, got nil
		true          => #1 string expected, got boolean
		"ab" "cd"     => "ba"
	`)
}

// All bytes, one by one and in one text.
func TestStringAllBytes(t *testing.T) {
	var every, upper, lower, backwards []byte
	for b := range 256 {
		one := []byte{byte(b)}
		big, small := one, one
		if b >= 97 && b <= 122 {
			big = []byte{byte(b - 32)}
		}
		if b >= 65 && b <= 90 {
			small = []byte{byte(b + 32)}
		}
		text := []impl.Lit{textLit(string(one))}
		checkPlain(t, "string.upper", text, plainAnswer{values: []impl.Lit{textLit(string(big))}})
		checkPlain(t, "string.lower", text, plainAnswer{values: []impl.Lit{textLit(string(small))}})
		checkPlain(t, "string.reverse", text, plainAnswer{values: text})
		checkPlain(t, "string.byte", text, plainAnswer{values: []impl.Lit{intLit(b)}})
		checkPlain(t, "string.char", []impl.Lit{intLit(b)}, plainAnswer{values: text})
		every = append(every, one...)
		upper, lower = append(upper, big...), append(lower, small...)
		backwards = append(one, backwards...)
	}
	whole := []impl.Lit{textLit(string(every))}
	checkPlain(t, "string.upper", whole, plainAnswer{values: []impl.Lit{textLit(string(upper))}})
	checkPlain(t, "string.lower", whole, plainAnswer{values: []impl.Lit{textLit(string(lower))}})
	checkPlain(t, "string.reverse", whole, plainAnswer{values: []impl.Lit{textLit(string(backwards))}})
	checkPlain(t, "string.len", whole, plainAnswer{values: []impl.Lit{intLit(256)}})
	checkPlain(t, "rawtostring", whole, plainAnswer{values: whole})
}

func TestStringRep(t *testing.T) {
	checkRows(t, "string.rep", `
		"ab" 0                    => ""
		"ab" -1                   => ""
		"ab" min                  => ""
		"ab" 1                    => "ab"
		"ab" 2                    => "abab"
		"ab" 3 "-"                => "ab-ab-ab"
		"ab" 1 "-"                => "ab"
		"ab" 0 "-"                => ""
		"ab" -1 "-"               => ""
		"ab" 2 ""                 => "abab"
		"ab" 2 nil                => "abab"
		"" 3 "-"                  => "--"
		"" 1 "-"                  => ""
		"" 5                      => ""
		"" max                    => ""
		"" max ""                 => ""
		"" max "-"                => ! string too long
		"a" max                   => ! string too long
		"a" max "-"               => ! string too long
		"ab" 4611686018427387904  => ! string too long
		"abcd" 4611686018427387904    => ! string too long
		"a" 4611686018427387904 "abc" => ! string too long
		"ab" max                  => ! string too long
		"a" 65536                 => "a"*65536
		"a" 65537                 => ! string too long
		"ab" 32768                => "ab"*32768
		"ab" 32769                => ! string too long
		"abc" 21845               => "abc"*21845
		"abc" 21846               => ! string too long
		"" 65537 "-"              => "-"*65536
		"" 65538 "-"              => ! string too long
		"x"*65536 1               => "x"*65536
		"x"*65536 1 "y"*65536     => "x"*65536
		"x"*65536 2               => ! string too long
		"x"*65536 2 "y"           => ! string too long
		"x"*32768 2               => "x"*65536
		"x"*32768 2 "y"           => ! string too long
		"" 2 "x"*65536            => "x"*65536
		"" 3 "x"*65536            => ! string too long
		"" 1 "x"*65536            => ""
		"x"*65536 0               => ""
		5 3                       => "555"
		1.5 2 0                   => "1.501.5"
		"a" 2.0 "b"               => "aba"
		"a" 2.5                   => #2 number has no integer representation
		"a" nan                   => #2 number has no integer representation
		"a" inf                   => #2 number has no integer representation
		"a" "2"                   => #2 number expected, got string
		"a"                       => #2 number expected, got no value
		"a" nil                   => #2 number expected, got nil
		"a" nil "x"               => #2 number expected, got nil
		"a" true                  => #2 number expected, got boolean
		"a" 2 true                => #3 string expected, got boolean
		"a" 0 true                => #3 string expected, got boolean
		"a" max false             => #3 string expected, got boolean
		"a" "2" true              => #2 number expected, got string
		nil true true             => #1 string expected, got nil
		true 2                    => #1 string expected, got boolean
		                          => #1 string expected, got no value
		"a" 2 "b" true            => "aba"
	`)
	for _, c := range []struct{ text, between, count, length int }{
		{1, 1, 32768, 65535}, {2, 1, 21845, 65534}, {2, 1, 21846, 0}, {1, 1, 32769, 0}, {1, 2, 21846, 65536}, {1, 2, 21847, 0},
		{100, 1, 648, 65447}, {100, 1, 649, 0}, {0, 3, 21846, 65535}, {0, 3, 21847, 0},
	} {
		args := []impl.Lit{textLit(times("a", c.text)), intLit(c.count), textLit(times("-", c.between))}
		got := checkPlainByModel(t, "string.rep", args)
		if c.length == 0 && got.message != "string too long" || c.length > 0 && len(got.values[0].Text) != c.length {
			t.Errorf("%d bytes, %d between, %d times: %v", c.text, c.between, c.count, got)
		}
	}
}

func TestStringByte(t *testing.T) {
	checkRows(t, "string.byte", `
		"az"                  => 97
		"az" 1                => 97
		"az" 2                => 122
		"az" 3                =>
		"az" 0                =>
		"az" -1               => 122
		"az" -2               => 97
		"az" -3               =>
		"az" min              =>
		"az" max              =>
		"az" 1 2              => 97 122
		"az" 1 -1             => 97 122
		"az" 0 2              => 97 122
		"az" -9 2             => 97 122
		"az" -9 9             => 97 122
		"az" 0 0              =>
		"az" 0 1              => 97
		"az" 2 1              =>
		"az" 2 9              => 122
		"az" min max          => 97 122
		"az" max min          =>
		"az" nil              => 97
		"az" nil 2            => 97 122
		"az" nil -1           => 97 122
		"az" -1 nil           => 122
		"az" 2 nil            => 122
		"az" nil nil          => 97
		""                    =>
		"" 1                  =>
		"" 0                  =>
		"" -1                 =>
		"" 1 -1               =>
		"\x00\xff" 1 2        => 0 255
		15 1 -1               => 49 53
		"az" 1.0 2.0          => 97 122
		"az" 1.5              => #2 number has no integer representation
		"az" 1 1.5            => #3 number has no integer representation
		"az" "1"              => #2 number expected, got string
		"az" 1 "1"            => #3 number expected, got string
		"az" true nil         => #2 number expected, got boolean
		"az" true "1"         => #2 number expected, got boolean
		nil 1.5               => #1 string expected, got nil
		false                 => #1 string expected, got boolean
		                      => #1 string expected, got no value
		"az" 1 1 "x"          => 97
		"a"*1000 1 -1         => 97^1000
		"a"*1001 1 -1         => ! too many values
		"a"*1001 1 1000       => 97^1000
		"a"*1001 2 -1         => 97^1000
		"a"*1001 1 1001       => ! too many values
		"a"*65536 1 -1        => ! too many values
		"a"*65536 -1000 -1    => 97^1000
		"a"*65536 -1001 -1    => ! too many values
		"a"*65536 min max     => ! too many values
		"a"*65536 max min     =>
	`)
}

func TestStringChar(t *testing.T) {
	checkRows(t, "string.char", `
		                      => ""
		72 105                => "Hi"
		0                     => "\x00"
		255                   => "\xff"
		256                   => #1 value out of range
		-1                    => #1 value out of range
		min                   => #1 value out of range
		max                   => #1 value out of range
		65.0                  => "A"
		-0.0                  => "\x00"
		65.5                  => #1 number has no integer representation
		256.0                 => #1 value out of range
		1e19                  => #1 number has no integer representation
		nan                   => #1 number has no integer representation
		"65"                  => #1 number expected, got string
		nil                   => #1 number expected, got nil
		true                  => #1 number expected, got boolean
		65 nil                => #2 number expected, got nil
		65 66 256             => #3 value out of range
		65 -1 256             => #2 value out of range
		256 "x"               => #1 value out of range
		"x" 256               => #1 number expected, got string
		65 1.5 256            => #2 number has no integer representation
		65 256 1.5            => #2 value out of range
		65 66 nil true        => #3 number expected, got nil
		97^1000               => "a"*1000
		97^999 256            => #1000 value out of range
		97^999 nil            => #1000 number expected, got nil
	`)
}

func TestStringFind(t *testing.T) {
	checkRows(t, "string.find", `
		"hello" "l+"             => 3 4
		"hello" "l"              => 3 3
		"hello" "h"              => 1 1
		"hello" "o"              => 5 5
		"hello" "x"              => nil
		"hello" ""               => 1 0
		"hello" "" 3             => 3 2
		"hello" "" 5             => 5 4
		"hello" "" 6             => 6 5
		"hello" "" 7             => nil
		"hello" "" max           => nil
		"hello" "" 0             => 1 0
		"hello" "" -1            => 5 4
		"hello" "" -5            => 1 0
		"hello" "" -6            => 1 0
		"hello" "" min           => 1 0
		"hello" "l" 3            => 3 3
		"hello" "l" 4            => 4 4
		"hello" "l" 5            => nil
		"hello" "l" -2           => 4 4
		"hello" "l" -1           => nil
		"hello" "^l"             => nil
		"hello" "^l" 3           => 3 3
		"hello" "^h" -9          => 1 1
		"hello" "$"              => 6 5
		"hello" "o$" 6           => nil
		"hello" "$" 6            => 6 5
		"" ""                    => 1 0
		"" "" 1                  => 1 0
		"" "" 2                  => nil
		"" "" -1                 => 1 0
		"" "x"                   => nil
		"a=1" "(%a)=(%d)"        => 1 3 "a" "1"
		"a=1" "(%a)=()"          => 1 2 "a" 3
		"a=1" "()()"             => 1 0 1 1
		"a=1" "(x*)"             => 1 0 ""
		"a=1" "((%a)=)(%d)"      => 1 3 "a=" "a" "1"
		"a=1" "()" 4             => 4 3 4
		"a\x00b" "%z"            => ! malformed pattern
		"a\x00b" "\x00"          => 2 2
		"hello" "["              => ! malformed pattern
		"hello" "[" 6            => ! malformed pattern
		"hello" "[" 7            => nil
		"hello" "[" max          => nil
		"hello" "[" -9           => ! malformed pattern
		"" "[" 1                 => ! malformed pattern
		"" "[" 2                 => nil
		"hello" "%"              => ! malformed pattern
		"hello" "("              => ! malformed pattern
		"hello" "a"*200          => nil
		"hello" "a"*201          => ! malformed pattern
		"hello" "a"*201 7        => nil
		"a"*200 "a"*200          => 1 200
		"()"*8 "()"*16           => 1 0 1^16
		"()"*8 "()"*17           => ! malformed pattern
		"a"*400 ".-.-.-x"        => ! pattern too complex
		"a"*400 ".-.-.-x" 401    => nil
		"a"*65536 "b"            => ! pattern too complex
		"a"*65536 "b" -49999     => nil
		"a"*65536 "b" -50000     => ! pattern too complex
		"a"*65536 "a" 65536      => 65536 65536
		"a"*65536 "" 65537       => 65537 65536
		"a"*65536 "" 65538       => nil
		12345 34                 => 3 4
		12345 34 -3.0            => 3 4
		1.5 "%."                 => 2 2
		"1.5" 1.5                => 1 3
		"hello" "l" nil          => 3 3
		"hello" "l" 2.5          => #3 number has no integer representation
		"hello" "[" 2.5          => #3 number has no integer representation
		"hello" "l" "1"          => #3 number expected, got string
		"hello" "l" true         => #3 number expected, got boolean
		"hello"                  => #2 string expected, got no value
		"hello" nil              => #2 string expected, got nil
		"hello" true "x"         => #2 string expected, got boolean
		                         => #1 string expected, got no value
		nil nil                  => #1 string expected, got nil
		true                     => #1 string expected, got boolean
		"hello" "l" 4 true       => 4 4
	`)
}

func TestStringMatch(t *testing.T) {
	checkRows(t, "string.match", `
		"hello" "l+"             => "ll"
		"hello" "x"              => nil
		"hello" ""               => ""
		"hello" "" 6             => ""
		"hello" "" 7             => nil
		"hello" "" min           => ""
		"hello" "." -2           => "l"
		"hello" "." 0            => "h"
		"hello" "." 6            => nil
		"hello" "^." 5           => "o"
		"k9" "%d"                => "9"
		"k9" "()%d"              => 2
		"k9" "(%a)(%d)"          => "k" "9"
		"k9" "(%a)()(%d)()"      => "k" 2 "9" 3
		"k9" "()" 3              => 3
		"k9" "(x*)"              => ""
		"key = value" "^(%w+)%s*=%s*(%w+)$" => "key" "value"
		"a\x00\xff" "(.)(.)$"    => "\x00" "\xff"
		"hello" "["              => ! malformed pattern
		"hello" "[" 6            => ! malformed pattern
		"hello" "[" 7            => nil
		"a"*400 ".-.-.-x"        => ! pattern too complex
		"x"*65536 ".*" 60000     => "x"*5537
		"x"*49999 ".*"           => "x"*49999
		"x"*50000 ".*"           => ! pattern too complex
		123 2                    => "2"
		-1.5 "%d" 3.0            => "5"
		"hello" "." nil          => "h"
		"hello" "." "2"          => #3 number expected, got string
		"hello" "[" false        => #3 number expected, got boolean
		"hello" "." 1.5          => #3 number has no integer representation
		"hello"                  => #2 string expected, got no value
		"hello" nil 1            => #2 string expected, got nil
		                         => #1 string expected, got no value
		nil                      => #1 string expected, got nil
		false "x" "y"            => #1 string expected, got boolean
		"hello" "." 2 "x"        => "e"
	`)
}

func TestStringRawGsub(t *testing.T) {
	checkRows(t, "string.rawgsub", `
		"aaa" "a" "b"            => "bbb" 3
		"aaa" "a" "b" 2          => "bba" 2
		"aaa" "a" "b" 3          => "bbb" 3
		"aaa" "a" "b" 4          => "bbb" 3
		"aaa" "a" "b" max        => "bbb" 3
		"aaa" "a" "b" 0          => "aaa" 0
		"aaa" "a" "b" -1         => "aaa" 0
		"aaa" "a" "b" min        => "aaa" 0
		"aaa" "a" "b" nil        => "bbb" 3
		"aaa" "a" "b" 2.0        => "bba" 2
		"abc" "" "-"             => "-a-b-c-" 4
		"abc" "x" "-"            => "abc" 0
		"" "" "-"                => "-" 1
		"" "x" "-"               => "" 0
		"k=v" "(%w)=(%w)" "%2=%1"  => "v=k" 1
		"abc" "%w" "%0%0"        => "aabbcc" 3
		"abc" "%w" "%1"          => "abc" 3
		"abc" "()%w" "%1"        => "123" 3
		"abc" "b" "%%"           => "a%c" 1
		"abc" "^%w" "-"          => "---" 3
		"aaa" "[" "b"            => ! malformed pattern
		"aaa" "[" "b" 0          => ! malformed pattern
		"aaa" "[" "%"            => ! malformed pattern
		"aaa" "a" "%"            => ! invalid use of '%' in a replacement
		"aaa" "x" "%"            => ! invalid use of '%' in a replacement
		"aaa" "a" "%" 0          => ! invalid use of '%' in a replacement
		"aaa" "a" "%2"           => ! invalid use of '%' in a replacement
		"aaa" "(a)" "%2"         => ! invalid use of '%' in a replacement
		"aaa" "a" "%a"           => ! invalid use of '%' in a replacement
		"aaa" "a" "% "           => ! invalid use of '%' in a replacement
		"a"*400 ".-.-.-x" "b"    => ! pattern too complex
		"a"*400 ".-.-.-x" "%"    => ! invalid use of '%' in a replacement
		"a"*400 ".-.-.-x" "b" 0  => "a"*400 0
		"a"*256 "a" "b"*256      => "b"*65536 256
		"a"*256 "a" "b"*257      => ! string too long
		"a" "a" "b"*65536        => "b"*65536 1
		"ab" "a" "b"*65535 1     => "b"*65536 1
		"ab" "a" "b"*65536 1     => ! string too long
		"ba" "a" ""              => "b" 1
		"x"*65536 "x" "x" 50000  => "x"*65536 50000
		"x"*65536 "x" "x" 50001  => ! pattern too complex
		"a"*20000 "a" "b"        => "b"*20000 20000
		"a"*49999 "a" "b"        => "b"*49999 49999
		"a"*50000 "a" "b"        => ! pattern too complex
		"a"*50000 "a" "b" 50000  => "b"*50000 50000
		123 2 "x"                => "1x3" 1
		1.5 "%." 0               => "105" 1
		"1" 1 2.5                => "2.5" 1
		"aaa" "a"                => #3 string expected, got no value
		"aaa"                    => #2 string expected, got no value
		                         => #1 string expected, got no value
		"aaa" "a" nil            => #3 string expected, got nil
		"aaa" nil "b"            => #2 string expected, got nil
		nil "a" "b"              => #1 string expected, got nil
		"aaa" "a" true           => #3 string expected, got boolean
		"aaa" "a" true "x"       => #3 string expected, got boolean
		"aaa" false true         => #2 string expected, got boolean
		"aaa" "a" "b" "1"        => #4 number expected, got string
		"aaa" "[" "%" true       => #4 number expected, got boolean
		"aaa" "a" "b" 1.5        => #4 number has no integer representation
		"aaa" "[" "%" nan        => #4 number has no integer representation
		"aaa" "a" "b" 1 "x"      => "baa" 1
	`)
}

// Starts on both sides of both ends, and what is told of them: by the place alone, whatever the subject's length.
func TestStringFindStarts(t *testing.T) {
	for length := range 6 {
		subject := "abcde"[:length]
		for init := -length - 3; init <= length+3; init++ {
			from := init
			if init < 0 {
				from = length + 1 + init
			}
			from = max(from, 1)
			want, part := fmt.Sprintf("%d %d", from, from-1), `""`
			if from > length+1 {
				want, part = "nil", "nil"
			}
			checkRows(t, "string.find", fmt.Sprintf(`%q "" %d => %s`, subject, init, want))
			checkRows(t, "string.match", fmt.Sprintf(`%q "" %d => %s`, subject, init, part))
		}
	}
}
