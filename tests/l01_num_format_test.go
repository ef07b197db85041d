package tests

import (
	"math"
	"strings"
	"testing"

	"loop.example/g00002/impl"
)

// P1: formatted and parsed it is the same number, of the same kind, in the fewest digits.

func checkRoundTrip(t *testing.T, n impl.Number) {
	t.Helper()
	text := impl.FormatNumber(n)
	if want := modelFormat(n); text != want {
		t.Errorf("FormatNumber(%+v) = %q, want %q", n, text, want)
	}
	back, ok := impl.ParseNumber(text)
	if !ok || back != n {
		t.Errorf("%+v is written %q and read as %+v, %v", n, text, back, ok)
	}
	if n.IsFloat && asFloat(n) != 0 {
		checkFewest(t, asFloat(n), text)
	}
}

// checkFewest looks at the digits of a text: rounded to one fewer it isn't the same float.
func checkFewest(t *testing.T, f float64, text string) {
	t.Helper()
	mantissa, _, _ := strings.Cut(text, "e")
	digits := strings.Trim(strings.Replace(mantissa, ".", "", 1), "0")
	if len(digits) < 1 || len(digits) > 17 {
		t.Errorf("%q has %d digits", text, len(digits))
	}
	if k := len(digits) - 1; k >= 1 && readDigits(roundTo(f, k)) == f {
		t.Errorf("%q: %d digits would do", text, k)
	}
}

func TestIntegersThereAndBack(t *testing.T) {
	t.Parallel()
	for i := range 2000 {
		checkRoundTrip(t, intNumber(i))
	}
	for shift := range 63 {
		p := 1 << shift
		checkRoundTrip(t, intNumber(p-1))
		checkRoundTrip(t, intNumber(p))
		checkRoundTrip(t, intNumber(p+1))
	}
	for p := 1; p < math.MaxInt/10; p *= 10 {
		checkRoundTrip(t, intNumber(p*10-1))
		checkRoundTrip(t, intNumber(p*10))
	}
	checkRoundTrip(t, intNumber(math.MaxInt-1))
	checkRoundTrip(t, intNumber(math.MaxInt))
	for _, w := range words(2000) {
		checkRoundTrip(t, intNumber(int(w>>1)))
	}
}

func TestFloatsThereAndBack(t *testing.T) {
	t.Parallel()
	for _, f := range []float64{0, 1, 0.5, 0.1, 0.2, 0.3, 1.5, 2, 3.14159, 100, 1234.5678, 1e10, 1e21, 1e22, 1e23, 6.02214076e23,
		math.SmallestNonzeroFloat64, math.MaxFloat64, math.Nextafter(math.MaxFloat64, 0), 0x1p-1022, math.Nextafter(0x1p-1022, 0), 0x1p53, 0x1p53 + 2, 0x1p63, 0x1p64} {
		checkRoundTrip(t, floatNumber(f))
	}
	for i := range 1000 {
		checkRoundTrip(t, floatNumber(float64(i)))
		checkRoundTrip(t, floatNumber(float64(i)/100))
		checkRoundTrip(t, floatNumber(float64(i)/1024))
	}
}

func TestFloatsOfAllWordsThereAndBack(t *testing.T) {
	t.Parallel()
	for _, w := range words(2000) {
		if f := math.Abs(math.Float64frombits(w)); f <= math.MaxFloat64 {
			checkRoundTrip(t, floatNumber(f))
		}
		checkRoundTrip(t, wordNumber(w>>12))
		checkRoundTrip(t, wordNumber(w>>40))
	}
}

// Below a power of two the floats stand closer than above it; there rounding to the fewest digits is hardest.
func TestFloatsNextToPowersThereAndBack(t *testing.T) {
	t.Parallel()
	for e := -1074; e <= 1023; e++ {
		p := math.Ldexp(1, e)
		checkRoundTrip(t, floatNumber(p))
		checkRoundTrip(t, floatNumber(math.Nextafter(p, 0)))
		if above := math.Nextafter(p, math.Inf(1)); above <= math.MaxFloat64 {
			checkRoundTrip(t, floatNumber(above))
		}
	}
	for e := -323; e <= 308; e++ {
		p := readDigits("1", e)
		checkRoundTrip(t, floatNumber(p))
		checkRoundTrip(t, floatNumber(math.Nextafter(p, 0)))
		checkRoundTrip(t, floatNumber(math.Nextafter(p, math.Inf(1))))
	}
}

func TestFormatNumber(t *testing.T) {
	t.Parallel()
	for _, c := range []struct {
		word uint64
		want string
	}{
		{0x0000000000000000, "0.0"}, {0x8000000000000000, "-0.0"},
		{0x3FF0000000000000, "1.0"}, {0xBFF0000000000000, "-1.0"}, {0xC059000000000000, "-100.0"}, {0xBFB999999999999A, "-0.1"},
		{0x40FD4C0000000000, "120000.0"}, {0x3F1A36E2EB1C432D, "0.0001"}, {0x3FD5555555555555, "0.3333333333333333"},
		{0x0000000000000001, "5e-324"}, {0x8000000000000001, "-5e-324"}, {0x0000000000000002, "1e-323"}, {0x0000000000000003, "1.5e-323"},
		{0x000FFFFFFFFFFFFF, "2.225073858507201e-308"}, {0x0010000000000000, "2.2250738585072014e-308"},
		{0x7FEFFFFFFFFFFFFF, "1.7976931348623157e+308"}, {0xFFEFFFFFFFFFFFFF, "-1.7976931348623157e+308"},
		// The change between the two forms: e is -5 or -6, 16 or 17.
		{0x3EE4F8B588E368F1, "0.00001"}, {0x3EE4F8B588E368F0, "9.999999999999999e-06"},
		{0x3EE4F8B588E368F2, "0.000010000000000000003"}, {0x3EB0C6F7A0B5ED8D, "1e-06"}, {0x3F0A36E2EB1C432D, "0.00005"},
		{0x430C6BF526340000, "1000000000000000.0"}, {0x4341C37937E08000, "10000000000000000.0"}, {0x4341C37937E08001, "10000000000000002.0"},
		{0x4376345785D89FFF, "99999999999999980.0"}, {0x4376345785D8A000, "1e+17"}, {0x4376345785D8A001, "1.0000000000000002e+17"},
		{0x44B52D02C7E14AF6, "1e+23"}, {0x54B249AD2594C37D, "1e+100"}, {0x2B2BFF2EE48E0530, "1e-100"},
		// All 17 digits.
		{0x3FD3333333333334, "0.30000000000000004"}, {0x3FF0000000000001, "1.0000000000000002"}, {0x4340000000000001, "9007199254740994.0"},
		// Next to these powers of two some 16 digits read as the same float, but they aren't the float rounded to 16 digits.
		{0x3D30000000000000, "5.6843418860808015e-14"}, {0x3E70000000000000, "5.9604644775390625e-08"}, {0x4580000000000000, "6.1897001964269014e+26"},
		{0x0060000000000000, "7.1202363472230444e-307"}, {0x7CF0000000000000, "6.3866889905111034e+293"},
		// Half way between two texts the one with the even last digit is taken.
		{0x4310000000000001, "1125899906842624.2"}, {0x4310000000000003, "1125899906842624.8"},
		{0x7FF0000000000000, "inf"}, {0xFFF0000000000000, "-inf"},
		{0x7FF8000000000000, "nan"}, {0x7FF8000000000001, "nan"}, {0x7FF0000000000001, "nan"}, {0xFFF8000000000000, "nan"}, {0xFFFFFFFFFFFFFFFF, "nan"},
	} {
		if got := impl.FormatNumber(wordNumber(c.word)); got != c.want {
			t.Errorf("FormatNumber of the word %016X = %q, want %q", c.word, got, c.want)
		}
	}
	for i, want := range map[int]string{0: "0", 7: "7", -7: "-7", -45: "-45", 1000: "1000", math.MaxInt: "9223372036854775807", math.MinInt: "-9223372036854775808"} {
		if got := impl.FormatNumber(intNumber(i)); got != want {
			t.Errorf("FormatNumber of the integer %d = %q, want %q", i, got, want)
		}
	}
}

func TestFormatNumberOfNegativeFloats(t *testing.T) {
	t.Parallel()
	for _, w := range words(1000) {
		n := wordNumber(w)
		if got, want := impl.FormatNumber(n), modelFormat(n); got != want {
			t.Errorf("FormatNumber of the word %016X = %q, want %q", w, got, want)
		}
	}
}
