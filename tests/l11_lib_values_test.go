package tests

import (
	"strings"
	"testing"

	"loop.example/g00002/impl"
)

func TestType(t *testing.T) {
	checkRows(t, "type", `
		nil          => "nil"
		true         => "boolean"
		false        => "boolean"
		0            => "number"
		min          => "number"
		0.0          => "number"
		nan          => "number"
		-inf         => "number"
		""           => "string"
		"1"          => "string"
		             => #1 value expected
		1 "x"        => "number"
		nil 1 2      => "nil"
		"x"^1000     => "string"
	`)
}

func TestRawToString(t *testing.T) {
	checkRows(t, "rawtostring", `
		nil             => "nil"
		true            => "true"
		false           => "false"
		0               => "0"
		-12             => "-12"
		max             => "9223372036854775807"
		min             => "-9223372036854775808"
		1.0             => "1.0"
		-0.0            => "-0.0"
		0.1             => "0.1"
		-2.5            => "-2.5"
		1e16            => "10000000000000000.0"
		1e17            => "1e+17"
		0.00001         => "0.00001"
		0.000001        => "1e-06"
		0x1p-1074       => "5e-324"
		0x1p1023        => "8.98846567431158e+307"
		nan             => "nan"
		inf             => "inf"
		-inf            => "-inf"
		""              => ""
		"nil"           => "nil"
		"a\x00\xff\n"   => "a\x00\xff\n"
		"x"*65536       => "x"*65536
		                => #1 value expected
		1 2             => "1"
	`)
}

func TestToNumber(t *testing.T) {
	checkRows(t, "tonumber", `
		3                       => 3
		min                     => min
		2.5                     => 2.5
		-0.0                    => -0.0
		nan                     => nan
		inf                     => inf
		nil                     => nil
		true                    => nil
		false                   => nil
		                        => #1 value expected
		"10"                    => 10
		"007"                   => 7
		"-5"                    => -5
		"+5"                    => nil
		"--5"                   => nil
		"-+5"                   => nil
		"-"                     => nil
		""                      => nil
		"nan"                   => nil
		"inf"                   => nil
		"-inf"                  => nil
		"-nan"                  => nil
		"nil"                   => nil
		"0x10"                  => 16
		"0XfF"                  => 255
		"-0x10"                 => -16
		"0x"                    => nil
		"0xg"                   => nil
		"0x1.8"                 => nil
		"0x-1"                  => nil
		"0b1"                   => nil
		"1_0"                   => nil
		"1.5"                   => 1.5
		"-1.5"                  => -1.5
		".5"                    => 0.5
		"5."                    => 5.0
		"."                     => nil
		"-."                    => nil
		"1e2"                   => 100.0
		"1E+2"                  => 100.0
		"1e-2"                  => 0.01
		"1e"                    => nil
		"1e+"                   => nil
		"1e308"                 => 1e308
		"1e309"                 => nil
		"1e-999"                => 0.0
		"-1e-999"               => -0.0
		"-0"                    => 0
		"-0.0"                  => -0.0
		"1e0001"                => nil
		"9223372036854775807"   => max
		"9223372036854775808"   => 9223372036854775808.0
		"-9223372036854775808"  => min
		"-9223372036854775809"  => -9223372036854775808.0
		"0xffffffffffffffff"    => -1
		"0x1ffffffffffffffff"   => -1
		"-0x8000000000000000"   => min
		"1"*100                 => 1.111111111111111111111111111111111111111e99
		"1"*101                 => nil
		"0"*100                 => 0
		"0"*101                 => nil
		"1"*65536               => nil
		"12a"                   => nil
		"a12"                   => nil
		"1,5"                   => nil
		"1\x00"                 => nil
		"\x001"                 => nil
		"10" nil                => 10
		true nil                => nil
		"10" nil 16             => 10
	`)
}

func TestToNumberBlanks(t *testing.T) {
	checkRows(t, "tonumber", `
		" 10"                   => 10
		"10 "                   => 10
		"  10  "                => 10
		"\t\n\v\f\r 10"         => 10
		"10\t\n\v\f\r "         => 10
		" -0x10\n"              => -16
		"\v-1e1\f"              => -10.0
		" "                     => nil
		"\t\n\v\f\r "           => nil
		"1 0"                   => nil
		"- 5"                   => nil
		" - 5"                  => nil
		"-\t5"                  => nil
		"0 x10"                 => nil
		"1 e2"                  => nil
		"1e 2"                  => nil
		"\x0810"                => nil
		"10\x08"                => nil
		"10\x0e"                => nil
		"10\x1f"                => nil
		"10!"                   => nil
		"10\x00"                => nil
		"\xc2\xa010"            => nil
		"10\x85"                => nil
		" "*65535               => nil
		" 11 " 2                => 3
		"\t\n\v\f\r -11" 2      => -3
		"-11\t\n\v\f\r " 2      => -3
		"- 11" 2                => nil
		"1 1" 2                 => nil
		"\x0e1" 2               => nil
		"1\x08" 2               => nil
		" " 2                   => nil
	`)
	around := strings.Repeat(" ", 32000)
	checkPlain(t, "tonumber", []impl.Lit{textLit(around + "-7" + around)}, plainAnswer{values: []impl.Lit{intLit(-7)}})
	long := strings.Repeat("0", 99) + "7"
	checkPlain(t, "tonumber", []impl.Lit{textLit(" -" + long + " ")}, plainAnswer{values: []impl.Lit{intLit(-7)}})
	checkPlain(t, "tonumber", []impl.Lit{textLit("-0" + long)}, plainAnswer{values: []impl.Lit{{}}})
}

func TestToNumberWithBase(t *testing.T) {
	checkRows(t, "tonumber", `
		"10" 2                        => 2
		"10" 10                       => 10
		"10" 36                       => 36
		"10" 1                        => #2 base out of range
		"10" 37                       => #2 base out of range
		"10" 0                        => #2 base out of range
		"10" -2                       => #2 base out of range
		"10" min                      => #2 base out of range
		"10" max                      => #2 base out of range
		"z" 36                        => 35
		"Z" 36                        => 35
		"z" 35                        => nil
		"y" 35                        => 34
		"Y" 35                        => 34
		"a" 11                        => 10
		"A" 10                        => nil
		"1" 2                         => 1
		"2" 2                         => nil
		"9" 10                        => 9
		"9" 9                         => nil
		"ff" 16                       => 255
		"Ff" 16                       => 255
		"fg" 16                       => nil
		"0xff" 16                     => nil
		"0x1" 36                      => 1189
		"1e1" 16                      => 481
		"1e1" 10                      => nil
		"1.5" 10                      => nil
		"" 10                         => nil
		"-" 10                        => nil
		"-" 36                        => nil
		"-1" 10                       => -1
		"--1" 10                      => nil
		"+1" 10                       => nil
		"-+1" 10                      => nil
		"1-" 10                       => nil
		"1-1" 10                      => nil
		"-zz" 36                      => -1295
		"/" 36                        => nil
		":" 36                        => nil
		"@" 36                        => nil
		"[" 36                        => nil
		"_" 36                        => nil
		"{" 36                        => nil
		"\x00" 36                     => nil
		"\xff" 36                     => nil
		"é" 36                        => nil
		15 10                         => 15
		15 16                         => 21
		-15 16                        => -21
		12 2                          => nil
		1.0 10                        => nil
		nan 36                        => 30191
		inf 36                        => 24171
		-inf 36                       => -24171
		nan 10                        => nil
		"9223372036854775807" 10      => max
		"9223372036854775808" 10      => min
		"-9223372036854775808" 10     => min
		"-9223372036854775809" 10     => max
		"18446744073709551615" 10     => -1
		"18446744073709551616" 10     => 0
		"-18446744073709551617" 10    => -1
		"1"*63 2                      => max
		"1"*64 2                      => -1
		"1"*65 2                      => -1
		"f"*16 16                     => -1
		"z"*13 36                     => 4561031516192243711
		"1"*65536 2                   => -1
		"0"*65536 36                  => 0
		"10" 16.0                     => 16
		"10" 16.5                     => #2 number has no integer representation
		"10" nan                      => #2 number has no integer representation
		"10" inf                      => #2 number has no integer representation
		"10" 1e19                     => #2 number has no integer representation
		"10" 1e18                     => #2 base out of range
		"10" "16"                     => #2 number expected, got string
		"10" true                     => #2 number expected, got boolean
		nil 10                        => #1 string expected, got nil
		true 10                       => #1 string expected, got boolean
		false 1                       => #1 string expected, got boolean
		nil 99                        => #1 string expected, got nil
		nil "x"                       => #1 string expected, got nil
		true 2.5                      => #1 string expected, got boolean
		"10" 8 2                      => 8
		"10" 8 nil true               => 8
		"?" 37                        => #2 base out of range
		"?" true                      => #2 number expected, got boolean
	`)
}

func TestRawEqual(t *testing.T) {
	checkRows(t, "rawequal", `
		1 1                                   => true
		1 1.0                                 => true
		1.0 1                                 => true
		1 2                                   => false
		1 1.5                                 => false
		0 -0.0                                => true
		0.0 -0.0                              => true
		nan nan                               => false
		nan 1                                 => false
		inf inf                               => true
		inf -inf                              => false
		max 9223372036854775808.0             => false
		min -9223372036854775808.0            => true
		9007199254740993 9007199254740992.0   => false
		9007199254740992 9007199254740992.0   => true
		max max                               => true
		max min                               => false
		"a" "a"                               => true
		"a" "b"                               => false
		"a" "A"                               => false
		"a" "a\x00"                           => false
		"" ""                                 => true
		"1" 1                                 => false
		1 "1"                                 => false
		nil nil                               => true
		nil false                             => false
		true true                             => true
		false false                           => true
		true false                            => false
		true 1                                => false
		false 0                               => false
		nil 0                                 => false
		nil ""                                => false
		"nil" nil                             => false
		"x"*65536 "x"*65536                   => true
		"x"*65536 "x"*65535                   => false
		                                      => #1 value expected
		nil                                   => #2 value expected
		1                                     => #2 value expected
		1 1 2                                 => true
		1 2 1                                 => false
	`)
}

func TestSelect(t *testing.T) {
	checkRows(t, "select", `
		"#"                  => 0
		"#" nil              => 1
		"#" nil nil          => 2
		"#" 7 "#" true       => 3
		"#" nil^999          => 999
		1                    =>
		1 7 8                => 7 8
		2 7 8                => 8
		3 7 8                =>
		4 7 8                =>
		max 7 8              =>
		5 7                  =>
		-1 7 8               => 8
		-2 7 8               => 7 8
		-3 7 8               => #1 index out of range
		min 7 8              => #1 index out of range
		0 7 8                => #1 index out of range
		0                    => #1 index out of range
		-1                   => #1 index out of range
		-1 7                 => 7
		1 7                  => 7
		1.0 7 8              => 7 8
		-1.0 7 8             => 8
		-0.0 7 8             => #1 index out of range
		1.5 7                => #1 number has no integer representation
		nan 7                => #1 number has no integer representation
		inf 7                => #1 number has no integer representation
		1e19 7               => #1 number has no integer representation
		1e18 7               =>
		"1" 7                => #1 number expected, got string
		"-1" 7               => #1 number expected, got string
		"##" 7               => #1 number expected, got string
		" #" 7               => #1 number expected, got string
		"" 7                 => #1 number expected, got string
		nil 7                => #1 number expected, got nil
		true 7               => #1 number expected, got boolean
		                     => #1 number expected, got no value
		1 nil                => nil
		2 7 nil 8            => nil 8
		1 "a" nil true 1.5   => "a" nil true 1.5
		-2 "a" nil true 1.5  => true 1.5
		1 7^999              => 7^999
		999 7^998 8          => 8
		-999 8 7^998         => 8 7^998
		-1000 7^999          => #1 index out of range
	`)
}

func TestMathFloor(t *testing.T) {
	checkRows(t, "math.floor", `
		0                            => 0
		-7                           => -7
		max                          => max
		min                          => min
		0.0                          => 0
		-0.0                         => 0
		0.5                          => 0
		-0.5                         => -1
		2.0                          => 2
		2.9999                       => 2
		-2.0001                      => -3
		-2.5                         => -3
		0x1p-1074                    => 0
		-0x1p-1074                   => -1
		4503599627370495.5           => 4503599627370495
		-4503599627370495.5          => -4503599627370496
		9007199254740993.0           => 9007199254740992
		1e18                         => 1000000000000000000
		9223372036854774784.0        => 9223372036854774784
		9223372036854775808.0        => 9223372036854775808.0
		-9223372036854775808.0       => min
		-9223372036854777856.0       => -9223372036854777856.0
		1e300                        => 1e300
		-1e300                       => -1e300
		nan                          => nan
		inf                          => inf
		-inf                         => -inf
		                             => #1 number expected, got no value
		nil                          => #1 number expected, got nil
		true                         => #1 number expected, got boolean
		"1"                          => #1 number expected, got string
		2.5 7                        => 2
		2.5 nil "x"                  => 2
	`)
}

func TestMathAbs(t *testing.T) {
	checkRows(t, "math.abs", `
		0                            => 0
		7                            => 7
		-7                           => 7
		max                          => max
		-9223372036854775807         => max
		min                          => min
		0.0                          => 0.0
		-0.0                         => 0.0
		2.5                          => 2.5
		-2.5                         => 2.5
		-0x1p-1074                   => 0x1p-1074
		-9223372036854775808.0       => 9223372036854775808.0
		nan                          => nan
		inf                          => inf
		-inf                         => inf
		                             => #1 number expected, got no value
		nil                          => #1 number expected, got nil
		false                        => #1 number expected, got boolean
		"-1"                         => #1 number expected, got string
		-1 -2                        => 1
	`)
}

func TestMathToInteger(t *testing.T) {
	checkRows(t, "math.tointeger", `
		3                            => 3
		min                          => min
		3.0                          => 3
		-0.0                         => 0
		3.5                          => nil
		0x1p-1074                    => nil
		9223372036854774784.0        => 9223372036854774784
		9223372036854775808.0        => nil
		-9223372036854775808.0       => min
		-9223372036854777856.0       => nil
		nan                          => nil
		inf                          => nil
		-inf                         => nil
		"3"                          => nil
		"3.0"                        => nil
		""                           => nil
		"x"                          => nil
		nil                          => nil
		true                         => nil
		false                        => nil
		                             => #1 value expected
		3.0 4                        => 3
	`)
}

func TestMathType(t *testing.T) {
	checkRows(t, "math.type", `
		3                            => "integer"
		min                          => "integer"
		3.0                          => "float"
		nan                          => "float"
		-inf                         => "float"
		"3"                          => nil
		""                           => nil
		nil                          => nil
		true                         => nil
		                             => #1 value expected
		3 4.0                        => "integer"
	`)
}

func TestMathUlt(t *testing.T) {
	checkRows(t, "math.ult", `
		0 0                          => false
		0 1                          => true
		1 0                          => false
		1 -1                         => true
		-1 1                         => false
		-2 -1                        => true
		-1 -2                        => false
		-1 -1                        => false
		max min                      => true
		min max                      => false
		min -1                       => true
		0 min                        => true
		1.0 2.0                      => true
		1.0 -1.0                     => true
		1.5 2                        => #1 number has no integer representation
		1 2.5                        => #2 number has no integer representation
		nan inf                      => #1 number has no integer representation
		1 9223372036854775808.0      => #2 number has no integer representation
		                             => #1 number expected, got no value
		1                            => #2 number expected, got no value
		nil 1                        => #1 number expected, got nil
		1 nil                        => #2 number expected, got nil
		"1" 2                        => #1 number expected, got string
		1 "2"                        => #2 number expected, got string
		true "2"                     => #1 number expected, got boolean
		1.5 "2"                      => #1 number has no integer representation
		1 true                       => #2 number expected, got boolean
		1 2 "x"                      => true
	`)
}
