package tests

import (
	"math"
	"strings"
	"testing"

	"loop.example/g00002/impl"
)

// The halfway mark between 1 and the next float, exactly.
const halfAboveOne = "1.00000000000000011102230246251565404236316680908203125"

func TestParseNumber(t *testing.T) {
	for _, c := range []struct {
		text string
		want impl.Number
	}{
		{"0", intNumber(0)}, {"7", intNumber(7)}, {"007", intNumber(7)}, {"9223372036854775807", intNumber(math.MaxInt)},
		{"0009223372036854775807", intNumber(math.MaxInt)}, {"9223372036854775808", floatNumber(0x1p63)}, {"18446744073709551616", floatNumber(0x1p64)},
		{"0x10", intNumber(16)}, {"0X1f", intNumber(31)}, {"0xabcdef", intNumber(0xABCDEF)}, {"0xABCDEF", intNumber(0xABCDEF)}, {"0x1e5", intNumber(0x1E5)},
		{"0x7FFFFFFFFFFFFFFF", intNumber(math.MaxInt)}, {"0x8000000000000000", intNumber(math.MinInt)}, {"0xFFFFFFFFFFFFFFFF", intNumber(-1)},
		{"0x10000000000000000", intNumber(0)}, {"0x123450000000000000007", intNumber(7)},
		{"0.0", floatNumber(0)}, {"0.", floatNumber(0)}, {".0", floatNumber(0)}, {"0e0", floatNumber(0)}, {"0e999", floatNumber(0)},
		{"2.", floatNumber(2)}, {".5", floatNumber(0.5)}, {"1.25", floatNumber(1.25)}, {"1e2", floatNumber(100)}, {"1E2", floatNumber(100)},
		{"1e+2", floatNumber(100)}, {"1e-2", floatNumber(0.01)}, {"1.e1", floatNumber(10)}, {".5E+001", floatNumber(5)}, {"00.10e00", floatNumber(0.1)},
		// The ends of the range.
		{"1e308", floatNumber(1e308)}, {"1.7976931348623157e308", floatNumber(math.MaxFloat64)}, {"1.7976931348623158e308", floatNumber(math.MaxFloat64)},
		{"17976931348623157e+292", floatNumber(math.MaxFloat64)}, {"5e-324", floatNumber(math.SmallestNonzeroFloat64)}, {"3e-324", floatNumber(math.SmallestNonzeroFloat64)},
		{"2e-324", floatNumber(0)}, {"1e-999", floatNumber(0)}, {"2.2250738585072011e-308", wordNumber(0x000FFFFFFFFFFFFF)}, {"2.2250738585072014e-308", floatNumber(0x1p-1022)},
		// Rounding: half way to the even one, and a digit far behind decides.
		{"9007199254740993.0", floatNumber(9007199254740992)}, {"9007199254740995.0", floatNumber(9007199254740996)},
		{halfAboveOne, floatNumber(1)}, {halfAboveOne + "000000000000000000000000000000000000000000001", wordNumber(0x3FF0000000000001)},
		{"1.00000000000000011102230246251565404236316680908203124", floatNumber(1)}, {"9223372036854775809", floatNumber(0x1p63)}, {"9223372036854777857", wordNumber(0x43E0000000000001)},
		// The longest ones.
		{strings.Repeat("0", 99) + "7", intNumber(7)}, {"0x" + strings.Repeat("F", 98), intNumber(-1)}, {strings.Repeat("9", 100), floatNumber(1e100)},
		{strings.Repeat("0", 98) + ".5", floatNumber(0.5)}, {"." + strings.Repeat("0", 94) + "1e95", floatNumber(1)},
	} {
		if got, ok := impl.ParseNumber(c.text); !ok || got != c.want {
			t.Errorf("ParseNumber(%q) = %+v, %v, want %+v", c.text, got, ok, c.want)
		}
	}
}

// notNumerals are texts that neither ParseNumber nor Arith takes.
var notNumerals = []string{"", ".", "e", "e5", ".e5", "1e", "1e+", "1e-", "1e+-1", "1e1000", "1e0001", "1e+0001", "1e5.0", "1.5.", "1..2", "1.2.3", "0x", "0X", "0x1g", "0xg", "0x1.8", "0x.8", "0x1p4", "x10",
	"00x10", "1x0", "0b1", "1_000", "1f", "1 ", " 1", "1 2", "\t1", "1\n", "1\x00", "+1", "+0x1", "abc", "12a", "a12", "Inf", "INF", "NaN", "NAN", "infinity", "+inf", "1,5", "1e5e5", "1d5", "0x-1", "\u0661", "\uff11", "\xff", "1\xff",
	"1e309", "2e308", "1.7976931348623159e308", "1e999", "0.1e310", strings.Repeat("0", 101), strings.Repeat("1", 101), "0x" + strings.Repeat("0", 99), "1." + strings.Repeat("0", 99)}

func TestParseNumberRefuses(t *testing.T) {
	signed := []string{"-1", "-0", "-0.0", "-0x1", "inf", "-inf", "nan", "-9223372036854775808"}
	for _, text := range append(signed, notNumerals...) {
		if got, ok := impl.ParseNumber(text); ok || got != (impl.Number{}) {
			t.Errorf("ParseNumber(%q) = %+v, %v", text, got, ok)
		}
	}
}

// The greatest float and half a step more is 2^1024 when rounded; a little less isn't.
func TestParseNumberAtItsEnd(t *testing.T) {
	ahead := "179769313486231580793728971405303415079934132710037826936173"
	for text, ok := range map[string]bool{ahead + "7e248": true, ahead + "8e248": false, ahead + "778e246": true, ahead + "779e246": false} {
		if _, got := impl.ParseNumber(text); got != ok {
			t.Errorf("ParseNumber(%q) answers %v", text, got)
		}
	}
}

// shortTexts gives all texts of up to four of these bytes.
func shortTexts(yield func(string) bool) {
	row := []string{""}
	for range 5 {
		var next []string
		for _, text := range row {
			if !yield(text) {
				return
			}
			for _, b := range []byte("019aFeExX.+-_ ") {
				next = append(next, text+string(rune(b)))
			}
		}
		row = next
	}
}

func TestParseNumberOfShortTexts(t *testing.T) {
	for text := range shortTexts {
		want, wantOk := modelParse(text)
		if got, ok := impl.ParseNumber(text); got != want || ok != wantOk {
			t.Errorf("ParseNumber(%q) = %+v, %v, want %+v, %v", text, got, ok, want, wantOk)
		}
	}
}

func TestParseNumberOfLongDecimals(t *testing.T) {
	for _, w := range words(4000) {
		text := ""
		for d := w; d > 0; d /= 10 {
			text += string(rune('0' + d%10))
		}
		at := int(w % uint64(len(text)))
		text = text[:at] + "." + text[at:] + text[:at] + []string{"", "e-330", "e-300", "e-10", "e7", "e290", "e300"}[w%7]
		want, wantOk := modelParse(text)
		if got, ok := impl.ParseNumber(text); got != want || ok != wantOk {
			t.Errorf("ParseNumber(%q) = %+v, %v, want %+v, %v", text, got, ok, want, wantOk)
		}
	}
}
