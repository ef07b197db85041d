package tests

import (
	"strconv"
	"strings"
	"testing"

	"loop.example/g00002/impl"
)

func TestCompare(t *testing.T) {
	for _, c := range []struct {
		a, b string
		want int
	}{
		{"1", "2", -1}, {"2", "2", 0}, {"-1", "-2", 1}, {"9223372036854775807", "-9223372036854775808", 1}, {"1.5", "2.5", -1}, {"0.1", "0.1", 0},
		{"1", "1.0", 0}, {"1", "1.5", -1}, {"2", "1.5", 1}, {"-1", "-1.5", 1}, {"-2", "-1.5", -1}, {"0", "5e-324", -1}, {"0", "-5e-324", 1}, {"-0.0", "0", 0}, {"0", "-0.0", 0}, {"-0.0", "0.0", 0}, {"-0", "0.0", 0},
		{"9007199254740993", "9007199254740992.0", 1}, {"9007199254740993", "9007199254740994.0", -1}, {"-9007199254740993", "-9007199254740992.0", -1}, {"9007199254740992", "9007199254740992.0", 0},
		{"9223372036854775807", "9223372036854775808", -1}, {"9223372036854775807", "9223372036854775808.0", -1}, {"9223372036854775807", "9223372036854774784.0", 1}, {"-9223372036854775808", "-9223372036854775808.0", 0},
		{"-9223372036854775807", "-9223372036854775808.0", 1}, {"-9223372036854775808", "-9223372036854777856.0", 1}, {"-9223372036854775808", "-9223372036854775809", 0}, {"9223372036854775807", "1e300", -1}, {"-9223372036854775808", "-1e300", 1},
		{"inf", "inf", 0}, {"-inf", "-inf", 0}, {"-inf", "inf", -1}, {"inf", "1e308", 1}, {"inf", "9223372036854775807", 1}, {"-inf", "-9223372036854775808", -1}, {"0x10", "16.0", 0}, {"0xFFFFFFFFFFFFFFFF", "-1", 0},
		{"nan", "1", 2}, {"1", "nan", 2}, {"nan", "nan", 2}, {"nan", "1.5", 2}, {"inf", "nan", 2}, {"nan", "-9223372036854775808", 2},
	} {
		if got, code := impl.Compare(c.a, c.b); got != c.want || code != 0 {
			t.Errorf("Compare(%q, %q) = %d, %d, want %d", c.a, c.b, got, code, c.want)
		}
		want := -c.want
		if c.want == 2 {
			want = 2
		}
		if got, code := impl.Compare(c.b, c.a); got != want || code != 0 {
			t.Errorf("Compare(%q, %q) = %d, %d, want %d", c.b, c.a, got, code, want)
		}
	}
}

func TestCompareOfAllPairs(t *testing.T) {
	texts := numberTexts()
	for _, a := range texts {
		x, _ := modelRead(a)
		for _, b := range texts {
			y, _ := modelRead(b)
			if got, code := impl.Compare(a, b); got != modelCompare(x, y) || code != 0 {
				t.Errorf("Compare(%q, %q) = %d, %d, want %d", a, b, got, code, modelCompare(x, y))
			}
		}
	}
}

func TestCompareRefuses(t *testing.T) {
	for _, text := range append([]string{"-", "--1", "-nan", "-" + strings.Repeat("0", 101)}, notNumerals...) {
		for _, other := range []string{"1", "1.5", "nan", "inf", text} {
			if got, code := impl.Compare(text, other); got != 0 || code != impl.NumText {
				t.Errorf("Compare(%q, %q) = %d, %d", text, other, got, code)
			}
			if got, code := impl.Compare(other, text); got != 0 || code != impl.NumText {
				t.Errorf("Compare(%q, %q) = %d, %d", other, text, got, code)
			}
		}
	}
}

func TestToInteger(t *testing.T) {
	for a, want := range map[string]string{"3": "3", "3.0": "3", "-5": "-5", "-5.0": "-5", "1e3": "1000", "0x10": "16", "0.0": "0", "-0.0": "0", "-0": "0", "007": "7", "9223372036854775807": "9223372036854775807", "-9223372036854775808": "-9223372036854775808",
		"-9223372036854775808.0": "-9223372036854775808", "-9223372036854775809": "-9223372036854775808", "9223372036854774784.0": "9223372036854774784", "9007199254740993": "9007199254740993", "9007199254740992.0": "9007199254740992",
		"0xFFFFFFFFFFFFFFFF": "-1", "0.0000001e7": "1", "1e18": "1000000000000000000", "1e-999": "0"} {
		if got, code := impl.ToInteger(a); got != want || code != 0 {
			t.Errorf("ToInteger(%q) = %q, %d, want %q", a, got, code, want)
		}
	}
}

func TestToIntegerRefuses(t *testing.T) {
	for _, a := range []string{"3.5", "-3.5", "0.1", "5e-324", "4503599627370495.5", "nan", "inf", "-inf", "9223372036854775808", "9223372036854775808.0", "-9223372036854777856.0", "1e19", "-1e300"} {
		if got, code := impl.ToInteger(a); got != "" || code != impl.NumWhole {
			t.Errorf("ToInteger(%q) = %q, %d", a, got, code)
		}
	}
	for _, a := range append([]string{"-", "--1", "-nan", "-" + strings.Repeat("0", 101)}, notNumerals...) {
		if got, code := impl.ToInteger(a); got != "" || code != impl.NumText {
			t.Errorf("ToInteger(%q) = %q, %d", a, got, code)
		}
	}
}

func TestToIntegerOfManyTexts(t *testing.T) {
	check := func(text string) {
		want, wantCode := "", impl.NumText
		if n, ok := modelRead(text); ok {
			wantCode = impl.NumWhole
			if i, ok := modelWhole(n); ok {
				want, wantCode = strconv.Itoa(i), 0
			}
		}
		if got, code := impl.ToInteger(text); got != want || code != wantCode {
			t.Errorf("ToInteger(%q) = %q, %d, want %q, %d", text, got, code, want, wantCode)
		}
	}
	for text := range shortTexts {
		check(text)
	}
	for _, text := range numberTexts() {
		check(text)
	}
}
