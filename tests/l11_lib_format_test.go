package tests

import (
	"fmt"
	"math"
	"strings"
	"testing"

	"loop.example/g00002/impl"
)

func TestFormatPlain(t *testing.T) {
	checkRows(t, "string.format", `
		""                      => ""
		"abc"                   => "abc"
		"a\x00\xff\n"           => "a\x00\xff\n"
		"%%"                    => "%"
		"%%%%"                  => "%%"
		"a%%b"                  => "a%b"
		"%%d"                   => "%d"
		"100%%" 7               => "100%"
		"abc" 1 2 nil           => "abc"
		12                      => "12"
		1.5                     => "1.5"
		"%d%d" 1 2              => "12"
		"%d-%s-%d" 1 "x" 2 3    => "1-x-2"
		"%%%d%%" 5              => "%5%"
		"%s%%%s" "%d" "%"       => "%d%%"
		                        => #1 string expected, got no value
		nil                     => #1 string expected, got nil
		true "x"                => #1 string expected, got boolean
	`)
}

func TestFormatDecimal(t *testing.T) {
	checkRows(t, "string.format", `
		"%d" 0                  => "0"
		"%d" 7                  => "7"
		"%d" -7                 => "-7"
		"%d" max                => "9223372036854775807"
		"%d" min                => "-9223372036854775808"
		"%d" 3.0                => "3"
		"%d" -0.0               => "0"
		"%d" -9223372036854775808.0 => "-9223372036854775808"
		"%+d" 7                 => "+7"
		"%+d" 0                 => "+0"
		"%+d" -7                => "-7"
		"%+d" min               => "-9223372036854775808"
		"%5d" 42                => "   42"
		"%5d" -42               => "  -42"
		"%2d" 12345             => "12345"
		"%1d" 7                 => "7"
		"%12d" 7                => "           7"
		"%-5d|" 42              => "42   |"
		"%-5d|" -42             => "-42  |"
		"%05d" 42               => "00042"
		"%05d" -42              => "-0042"
		"%02d" -42              => "-42"
		"%+05d" 42              => "+0042"
		"%0+5d" 42              => "+0042"
		"%+5d" 42               => "  +42"
		"%-+5d|" 42             => "+42  |"
		"%+-5d|" 42             => "+42  |"
		"%-05d|" 42             => "42   |"
		"%0-5d|" 42             => "42   |"
		"%-0+5d|" 42            => "+42  |"
		"%+-0--00++5d|" 42      => "+42  |"
		"%00005d" 42            => "00042"
		"%0d" 42                => "42"
		"%-d" 42                => "42"
		"%.d" 0                 => "0"
		"%.0d" 0                => "0"
		"%.1d" 0                => "0"
		"%.2d" 0                => "00"
		"%.d" 42                => "42"
		"%.0d" 42               => "42"
		"%.5d" 42               => "00042"
		"%.5d" -42              => "-00042"
		"%.05d" 42              => "00042"
		"%.005d" 42             => ! invalid conversion in 'string.format'
		"%.02d" 4               => "04"
		"%+.5d" 42              => "+00042"
		"%.99d" 7               => "000000000000000000000000000000000000000000000000000000000000000000000000000000000000000000000000007"
		"%8.5d" 42              => "   00042"
		"%8.5d" -42             => "  -00042"
		"%-8.5d|" 42            => "00042   |"
		"%08.5d" 42             => "   00042"
		"%08.5d" -42            => "  -00042"
		"%08.d" 42              => "      42"
		"%+08.3d" 42            => "    +042"
		"%3.5d" 42              => "00042"
		"%99d" 7                => "                                                                                                  7"
		"%-99d" 7               => "7                                                                                                  "
		"%099d" -7              => "-00000000000000000000000000000000000000000000000000000000000000000000000000000000000000000000000007"
	`)
}

func TestFormatHexadecimal(t *testing.T) {
	checkRows(t, "string.format", `
		"%x" 0                  => "0"
		"%x" 255                => "ff"
		"%X" 255                => "FF"
		"%x" 3735928559         => "deadbeef"
		"%X" 3735928559         => "DEADBEEF"
		"%x" -1                 => "ffffffffffffffff"
		"%X" -1                 => "FFFFFFFFFFFFFFFF"
		"%x" max                => "7fffffffffffffff"
		"%x" min                => "8000000000000000"
		"%x" 16.0               => "10"
		"%04x" 255              => "00ff"
		"%04X" 255              => "00FF"
		"%4x" 255               => "  ff"
		"%-4x|" 255             => "ff  |"
		"%-04X|" 255            => "FF  |"
		"%+x" 255               => "ff"
		"%+X" 255               => "FF"
		"%+5x" 255              => "   ff"
		"%+05x" 255             => "000ff"
		"%-+5X|" 255            => "FF   |"
		"%.x" 0                 => "0"
		"%.0X" 0                => "0"
		"%.3x" 255              => "0ff"
		"%.3X" 255              => "0FF"
		"%.3x" -1               => "ffffffffffffffff"
		"%.17x" -1              => "0ffffffffffffffff"
		"%06.3x" 255            => "   0ff"
		"%-6.3X|" 255           => "0FF   |"
		"%020x" -1              => "0000ffffffffffffffff"
	`)
}

func TestFormatByte(t *testing.T) {
	checkRows(t, "string.format", `
		"%c" 65                 => "A"
		"%c" 0                  => "\x00"
		"%c" 255                => "\xff"
		"%c" 256                => "\x00"
		"%c" 321                => "A"
		"%c" -1                 => "\xff"
		"%c" -191               => "A"
		"%c" min                => "\x00"
		"%c" max                => "\xff"
		"%c" 65.0               => "A"
		"%c%c%c" 72 105 33      => "Hi!"
		"%3c" 65                => "  A"
		"%-3c|" 65              => "A  |"
		"%03c" 65               => "  A"
		"%-03c|" 65             => "A  |"
		"%+c" 65                => "A"
		"%+3c" 65               => "  A"
		"%.0c" 65               => "A"
		"%.c" 65                => "A"
		"%.5c" 65               => "A"
		"%3.5c" 65              => "  A"
		"%2c" 0                 => " \x00"
	`)
}

func TestFormatShown(t *testing.T) {
	checkRows(t, "string.format", `
		"%s" "abc"              => "abc"
		"%s" ""                 => ""
		"%s" nil                => "nil"
		"%s" true               => "true"
		"%s" false              => "false"
		"%s" 7                  => "7"
		"%s" -1.5               => "-1.5"
		"%s" 1e100              => "1e+100"
		"%s" nan                => "nan"
		"%s" -inf               => "-inf"
		"%s" "%d"               => "%d"
		"%s" "a\x00\xff"        => "a\x00\xff"
		"%5s" "abc"             => "  abc"
		"%-5s|" "abc"           => "abc  |"
		"%05s" "abc"            => "  abc"
		"%05s" 12               => "   12"
		"%-05s|" "abc"          => "abc  |"
		"%+s" 7                 => "7"
		"%+5s" "abc"            => "  abc"
		"%2s" "abc"             => "abc"
		"%3s" ""                => "   "
		"%.0s" "abc"            => ""
		"%.s" "abc"             => ""
		"%.1s" "abc"            => "a"
		"%.2s" "abc"            => "ab"
		"%.3s" "abc"            => "abc"
		"%.4s" "abc"            => "abc"
		"%.99s" "abc"           => "abc"
		"%.2s" nil              => "ni"
		"%.2s" false            => "fa"
		"%.2s" 12345            => "12"
		"%.3s" -1.25            => "-1."
		"%5.2s" "abc"           => "   ab"
		"%-5.2s|" "abc"         => "ab   |"
		"%05.2s" "abc"          => "   ab"
		"%3.s" "abc"            => "   "
		"%.10s" "x"*65536       => "xxxxxxxxxx"
		"%.1s" "é"              => "\xc3"
		"%99s" ""               => "                                                                                                   "
		"%-99s" ""              => "                                                                                                   "
		"%s" "x"*65536          => "x"*65536
		"%s" "nil"              => "nil"
	`)
}

func TestFormatLiteral(t *testing.T) {
	checkRows(t, "string.format", `
		"%q" "abc"              => "\"abc\""
		"%q" ""                 => "\"\""
		"%q" "a\n\""            => "\"a\\010\\\"\""
		"%q" "\\"               => "\"\\\\\""
		"%q" "'"                => "\"'\""
		"%q" "\x00"             => "\"\\000\""
		"%q" "\x001"            => "\"\\0001\""
		"%q" "\x1f ~\x7f"       => "\"\\031 ~\\127\""
		"%q" "\x80\xff"         => "\"\\128\\255\""
		"%q" "\t\r"             => "\"\\009\\013\""
		"%q" nil                => "nil"
		"%q" true               => "true"
		"%q" false              => "false"
		"%q" 0                  => "0"
		"%q" -7                 => "-7"
		"%q" max                => "9223372036854775807"
		"%q" min                => "-9223372036854775808"
		"%q" 1.0                => "1.0"
		"%q" -0.0               => "-0.0"
		"%q" 0.1                => "0.1"
		"%q" 1e100              => "1e+100"
		"%q" nan                => "nan"
		"%q" inf                => "inf"
		"%q" -inf               => "-inf"
		"%7q" "abc"             => "  \"abc\""
		"%-7q|" "abc"           => "\"abc\"  |"
		"%07q" "abc"            => "  \"abc\""
		"%07q" 5                => "      5"
		"%+q" 5                 => "5"
		"%.1q" "abc"            => "\"abc\""
		"%.0q" 12               => "12"
		"%.q" nil               => "nil"
		"%99q" ""               => "                                                                                                 \"\""
	`)
	for b := range 256 {
		text := fmt.Sprintf("\"\\%03d\"", b)
		switch {
		case b == '"' || b == '\\':
			text = "\"\\" + string(rune(b)) + "\""
		case b >= 32 && b <= 126:
			text = "\"" + string(rune(b)) + "\""
		}
		args := []impl.Lit{textLit("%q"), textLit(string([]byte{byte(b)}))}
		checkPlain(t, "string.format", args, plainAnswer{values: []impl.Lit{textLit(text)}})
	}
}

func TestFormatFloat(t *testing.T) {
	checkRows(t, "string.format", `
		"%f" 0                  => "0.000000"
		"%f" 1                  => "1.000000"
		"%f" -1                 => "-1.000000"
		"%f" 0.0                => "0.000000"
		"%f" -0.0               => "-0.000000"
		"%f" 1.5                => "1.500000"
		"%f" 0.1                => "0.100000"
		"%f" 1e15               => "1000000000000000.000000"
		"%f" 1e22               => "10000000000000000000000.000000"
		"%f" 1e23               => "99999999999999991611392.000000"
		"%f" max                => "9223372036854775808.000000"
		"%f" min                => "-9223372036854775808.000000"
		"%.0f" 9007199254740993 => "9007199254740992"
		"%.0f" 9007199254740995 => "9007199254740996"
		"%f" 0x1p-1074          => "0.000000"
		"%f" -0x1p-1074         => "-0.000000"
		"%f" nan                => "nan"
		"%f" inf                => "inf"
		"%f" -inf               => "-inf"
		"%+f" 1                 => "+1.000000"
		"%+f" -1                => "-1.000000"
		"%+f" 0.0               => "+0.000000"
		"%+f" -0.0              => "-0.000000"
		"%+f" nan               => "+nan"
		"%+f" inf               => "+inf"
		"%+f" -inf              => "-inf"
		"%.0f" 0.5              => "0"
		"%.0f" 1.5              => "2"
		"%.0f" 2.5              => "2"
		"%.0f" 3.5              => "4"
		"%.0f" -0.5             => "-0"
		"%.0f" -1.5             => "-2"
		"%.0f" -0.4             => "-0"
		"%.0f" 0.49999999999999994 => "0"
		"%.0f" 0.50000000000000011 => "1"
		"%.0f" 9.5              => "10"
		"%.0f" 8.5              => "8"
		"%.0f" 99.5             => "100"
		"%.f" 2.5               => "2"
		"%.f" 7                 => "7"
		"%.1f" 0.25             => "0.2"
		"%.1f" 0.75             => "0.8"
		"%.1f" 0.05             => "0.1"
		"%.1f" 0.15             => "0.1"
		"%.1f" 0.95             => "0.9"
		"%.1f" 0.35             => "0.3"
		"%.2f" 0.125            => "0.12"
		"%.2f" 0.375            => "0.38"
		"%.2f" 0.005            => "0.01"
		"%.2f" 1.005            => "1.00"
		"%.2f" 0.995            => "0.99"
		"%.2f" 99.995           => "100.00"
		"%.2f" 2.675            => "2.67"
		"%.3f" 0.0625           => "0.062"
		"%.3f" 0.1875           => "0.188"
		"%.6f" 0.0000005        => "0.000000"
		"%.7f" 0.0000005        => "0.0000005"
		"%.20f" 0.1             => "0.10000000000000000555"
		"%.55f" 0.1             => "0.1000000000000000055511151231257827021181583404541015625"
		"%.60f" 0.1             => "0.100000000000000005551115123125782702118158340454101562500000"
		"%.1f" 5e-324           => "0.0"
		"%5.1f" 2.5             => "  2.5"
		"%-7.1f|" 2.5           => "2.5    |"
		"%07.1f" -2.5           => "-0002.5"
		"%07.1f" 2.5            => "00002.5"
		"%+07.1f" 2.5           => "+0002.5"
		"%-07.1f|" 2.5          => "2.5    |"
		"%+-7.1f|" 2.5          => "+2.5   |"
		"%3.0f" 2.5             => "  2"
		"%03.0f" -0.0           => "-00"
		"%03.f" 7               => "007"
		"%2f" 1                 => "1.000000"
		"%10f" 1                => "  1.000000"
		"%010f" 1               => "001.000000"
		"%05f" nan              => "  nan"
		"%05f" inf              => "  inf"
		"%05f" -inf             => " -inf"
		"%+05f" inf             => " +inf"
		"%+05f" nan             => " +nan"
		"%-5f|" -inf            => "-inf |"
		"%.2f" nan              => "nan"
		"%.0f" inf              => "inf"
		"%0.1f" 2.25            => "2.2"
	`)
}

// The least and the greatest floats, with no digits and with as many as can be asked for.
func TestFormatFarFloats(t *testing.T) {
	const greatestFloat = "1797693134862315708145274237317043567980705675258449965989174768031572607800285387605895586327668781715" +
		"4045895351438246423432132688946418276846754670353751698604991057655128207624549009038932894407586850845" +
		"5133942304583236903222948165808559332123348274797826204144723168738177180919299881250404026184124858368"
	const fine = "0.000000000000000000000000000807793566946316088741610050849573099185363389551639556884765625" // 2^-90
	const thrice = "0.000000000000000000000000002423380700838948266224830152548719297556090168654918670654296875"
	for _, c := range []struct {
		format string
		f      float64
		want   string
	}{
		{"%.0f", math.MaxFloat64, greatestFloat},
		{"%f", math.MaxFloat64, greatestFloat + ".000000"},
		{"%.99f", math.MaxFloat64, greatestFloat + "." + times("0", 99)},
		{"%+.1f", -math.MaxFloat64, "-" + greatestFloat + ".0"},
		{"%99.0f", math.MaxFloat64, greatestFloat},
		{"%.0f", math.SmallestNonzeroFloat64, "0"},
		{"%.99f", math.SmallestNonzeroFloat64, "0." + times("0", 99)},
		{"%.99f", -math.SmallestNonzeroFloat64, "-0." + times("0", 99)},
		{"%.90f", 0x1p-90, fine},
		{"%.99f", 0x1p-90, fine + times("0", 9)},
		{"%.89f", 0x1p-90, fine[:91]}, // the digits end with 25
		{"%.90f", 0x3p-90, thrice},
		{"%.89f", 0x3p-90, thrice[:90] + "8"}, // .. and with 75
		{"%-99.90f|", -0x1p-90, "-" + fine + times(" ", 6) + "|"},
		{"%099.90f", -0x1p-90, "-" + times("0", 6) + fine},
	} {
		args := []impl.Lit{textLit(c.format), floatLit(c.f)}
		checkPlain(t, "string.format", args, plainAnswer{values: []impl.Lit{textLit(c.want)}})
	}
}

func TestFormatWrongConversions(t *testing.T) {
	const wrong = "invalid conversion in 'string.format'"
	for _, format := range []string{
		"%", "a%", "%%%", "%5", "%-", "%0", "%+", "%-0+", "%.", "%.5", "%5.", "%5.5", "%12", "%.12", "%99.99",
		"%5%", "%-%", "%0%", "%.%", "%100d", "%123d", "%.100d", "%.123d", "%100.1f", "%1.100f", "%0100d", "%-100s",
		"%..d", "%.1.1d", "%5.-1d", "%.-1d", "%.+1d", "%5-d", "%5+d", "% d", "%#d", "%'d", "%*d", "%.*d", "%ld", "%lld", "%hd",
		"% 5d", "%5 d", "%1$d", "%\x00", "%\xff", "%\n", "%é", "%-\x00d", "%(x)d",
	} {
		checkPlain(t, "string.format", []impl.Lit{textLit(format), intLit(1)}, plainAnswer{message: wrong, code: impl.PlainError})
		checkPlain(t, "string.format", []impl.Lit{textLit(format)}, plainAnswer{message: wrong, code: impl.PlainError})
		checkPlain(t, "string.format", []impl.Lit{textLit("%d" + format), intLit(1)}, plainAnswer{message: wrong, code: impl.PlainError})
	}
	for b := range 256 {
		letter := string([]byte{byte(b)})
		if strings.Contains("dxXcsqf", letter) {
			checkPlain(t, "string.format", []impl.Lit{textLit("%" + letter)}, plainAnswer{
				message: "bad argument #2 to 'string.format' (" + map[bool]string{
					true: "value expected", false: "number expected, got no value",
				}[b == 's' || b == 'q'] + ")",
				code: impl.PlainError,
			})
			continue
		}
		for _, ahead := range []string{"%", "%5", "%-", "%.3", "%05.1"} {
			if letter == "%" && ahead == "%" || strings.Contains("-0+.123456789", letter) {
				continue
			}
			format := ahead + letter
			checkPlain(t, "string.format", []impl.Lit{textLit(format), intLit(1)}, plainAnswer{message: wrong, code: impl.PlainError})
		}
	}
}

// What comes first of conversions and arguments that are wrong: that which stands more to the left.
func TestFormatOrderOfFaults(t *testing.T) {
	checkRows(t, "string.format", `
		"%y"                     => ! invalid conversion in 'string.format'
		"%y" true                => ! invalid conversion in 'string.format'
		"%d"                     => #2 number expected, got no value
		"%d" nil                 => #2 number expected, got nil
		"%d" true                => #2 number expected, got boolean
		"%d" "1"                 => #2 number expected, got string
		"%d" 1.5                 => #2 number has no integer representation
		"%d" nan                 => #2 number has no integer representation
		"%d" inf                 => #2 number has no integer representation
		"%d" 9223372036854775808.0 => #2 number has no integer representation
		"%x"                     => #2 number expected, got no value
		"%x" "ff"                => #2 number expected, got string
		"%X" -1.5                => #2 number has no integer representation
		"%X" false               => #2 number expected, got boolean
		"%c"                     => #2 number expected, got no value
		"%c" "A"                 => #2 number expected, got string
		"%c" 65.5                => #2 number has no integer representation
		"%c" nil                 => #2 number expected, got nil
		"%f"                     => #2 number expected, got no value
		"%f" "1.5"               => #2 number expected, got string
		"%f" nil                 => #2 number expected, got nil
		"%f" true                => #2 number expected, got boolean
		"%s"                     => #2 value expected
		"%q"                     => #2 value expected
		"%d%y" true              => #2 number expected, got boolean
		"%d%y" 1                 => ! invalid conversion in 'string.format'
		"%y%d" true              => ! invalid conversion in 'string.format'
		"%d%d" 1                 => #3 number expected, got no value
		"%d%d" "1"               => #2 number expected, got string
		"%d%d" 1.5 "1"           => #2 number has no integer representation
		"%d%d" 1 "1"             => #3 number expected, got string
		"%s%s" 1                 => #3 value expected
		"%s%d%s" 1 2             => #4 value expected
		"%s%d%s" 1 "2"           => #3 number expected, got string
		"%s%d%" 1 "2"            => #3 number expected, got string
		"%s%d%" 1 2              => ! invalid conversion in 'string.format'
		"%100d" true             => ! invalid conversion in 'string.format'
		"%s%100d" 1 true         => ! invalid conversion in 'string.format'
		"%%%d" true              => #2 number expected, got boolean
		"%d" 1 true              => "1"
		"%s"*999 1^999           => "1"*999
		"%s"*1000 1^999          => #1001 value expected
		"%d"*999 1^998 nil       => #1000 number expected, got nil
		"%d"*999 1^998           => #1000 number expected, got no value
		"%s%d" "x"*65536 true    => #3 number expected, got boolean
		"%s%s%y" "x"*65536 "x"   => ! invalid conversion in 'string.format'
		"%s%s" "x"*65536         => #3 value expected
		"%s%s" "x"*65536 ""      => "x"*65536
		"%s%s" "x"*65536 "x"     => ! string too long
	`)
}

func TestFormatLongTexts(t *testing.T) {
	checkRows(t, "string.format", `
		"x"*65536                => "x"*65536
		"x"*65535                => "x"*65535
		"%%"*32768               => "%"*32768
		"%s%s" "x"*32768 "x"*32768  => "x"*65536
		"%s%s" "x"*32768 "x"*32769  => ! string too long
		"x%s" "x"*65535          => "x"*65536
		"x%s" "x"*65536          => ! string too long
		"%sx" "x"*65536          => ! string too long
		"%%%s" "%"*65535         => "%"*65536
		"%%%s" "%"*65536         => ! string too long
		"%s%%" "%"*65536         => ! string too long
		"%q" "x"*65535           => ! string too long
		"%q" "x"*65536           => ! string too long
		"%q" "\x00"*16384        => ! string too long
		"%q%q" "\x00"*65536 "\x00"*65536 => ! string too long
		"%s%s%s" "x"*65536 "x"*65536 "" => ! string too long
		"%.0s%s" "x"*65536 "x"*65536 => "x"*65536
		"%s%.0s" "x"*65536 "x"*65536 => "x"*65536
		"%s%5s" "x"*65531 "xxxxx"    => "x"*65536
		"%s%6s" "x"*65531 "xxxxx"    => ! string too long
	`)
	quoted := func(length int) plainAnswer {
		return plainAnswer{values: []impl.Lit{textLit("\"" + times("x", length) + "\"")}}
	}
	checkPlain(t, "string.format", []impl.Lit{textLit("%q"), textLit(times("x", 65534))}, quoted(65534))
	checkPlain(t, "string.format", []impl.Lit{textLit("\"%s\""), textLit(times("x", 65534))}, quoted(65534))
	zeros := plainAnswer{values: []impl.Lit{textLit("\"" + times("\\000", 16383) + "\"")}}
	checkPlain(t, "string.format", []impl.Lit{textLit("%q"), textLit(times("\x00", 16383))}, zeros)
	wide := plainAnswer{values: []impl.Lit{textLit(times(times(" ", 65)+"x", 992) + times("x", 64))}}
	args := append([]impl.Lit{textLit(times("%66s", 992) + times("x", 64))}, many(textLit("x"), 992)...)
	checkPlain(t, "string.format", args, wide)
	args[0].Text += "x"
	checkPlain(t, "string.format", args, plainAnswer{message: "string too long", code: impl.PlainError})
}

// Each conversion with each flag, pairs and all of them, at widths and precisions of no, one and two digits, of values of
// each kind.
func TestFormatAllConversions(t *testing.T) {
	flags := []string{"", "-", "0", "+", "-0", "0-", "-+", "+-", "0+", "+0", "-0+", "+0-", "--", "00", "++"}
	values := litsOf(t, `0 7 -7 255 min max 0.0 -0.0 0.5 2.5 -1234.5678 1e21 nan inf -inf 3.0 "" "abc" "a\x00\n\"\\" nil true false`)
	whole := 0
	for _, letter := range "dxXcsqf" {
		for _, flag := range flags {
			for _, width := range []string{"", "1", "5", "12", "99"} {
				for _, precision := range []string{"", ".", ".0", ".1", ".3", ".05", ".12", ".99"} {
					format := textLit("<%" + flag + width + precision + string(letter) + ">")
					for _, v := range values {
						if checkPlainByModel(t, "string.format", []impl.Lit{format, v}).code == 0 {
							whole++
						}
					}
				}
			}
		}
	}
	if whole < 50000 {
		t.Errorf("just %d were written", whole)
	}
}

// Digits of floats of all sizes, held against exact numbers.
func TestFormatFloatsAsTheModel(t *testing.T) {
	for i, word := range words(4000) {
		f := math.Float64frombits(word)
		if i%2 == 0 { // near the point, many of them ties
			f = float64(int32(word>>20)) / float64(int(1)<<(word>>56%14))
		}
		for _, format := range []string{"%.0f", "%f", fmt.Sprintf("%%.%df", word>>40%20), fmt.Sprintf("%%+0%d.%df", 10+word>>30%80, word>>44%100)} {
			checkPlainByModel(t, "string.format", []impl.Lit{textLit(format), floatLit(f)})
		}
	}
}
