package impl

import (
	"cmp"
	"errors"
	"math"
	"strconv"
	"strings"
)

// MaxNumeral bounds the bytes of a numeral.
const MaxNumeral = 100

// Operations on numbers, see chapter 2.
const (
	NumAdd = iota + 1
	NumSub
	NumMul
	NumDiv
	NumMod
	NumIdiv
	NumPow
	NumAnd
	NumOr
	NumXor
	NumShl
	NumShr
	NumNeg
	NumNot
)

// Codes of operations on numbers, see chapter 2.
const (
	NumText  = 1
	NumOp    = 2
	NumZero  = 3
	NumRange = 4
	NumWhole = 5
)

// Bounds and words of floats that chapter 2 names.
const (
	nanWord       = 0x7FF8000000000000
	greatestPower = 1023
	mostDigits    = 17
	leastPlain    = -5
	greatestPlain = 16
)

// What can be wrong with numbers, told inside as errors and at the face as codes.
var (
	errNumText  = errors.New("not a number")
	errNumOp    = errors.New("no such operation")
	errNumZero  = errors.New("attempt to divide by zero")
	errNumRange = errors.New("exponent out of range")
	errNumWhole = errors.New("number has no integer representation")
)

// Number is an integer or a float, the latter as its word.
type Number struct {
	IsFloat bool
	Int     int
	Bits    uint64
}

// ParseNumber reads a numeral, see chapter 2.
func ParseNumber(text string) (Number, bool) {
	if len(text) > MaxNumeral {
		return Number{}, false
	}
	if strings.HasPrefix(text, "0x") || strings.HasPrefix(text, "0X") {
		return parseHexadecimal(text[2:])
	}
	return parseDecimal(text)
}

// FormatNumber writes a number, see chapter 2.
func FormatNumber(n Number) string {
	if !n.IsFloat {
		return strconv.Itoa(n.Int)
	}
	f := floatOf(n)
	switch {
	case math.IsNaN(f):
		return "nan"
	case math.IsInf(f, 1):
		return "inf"
	case math.IsInf(f, -1):
		return "-inf"
	case math.Signbit(f):
		return "-" + formatMagnitude(-f)
	}
	return formatMagnitude(f)
}

// Arith does an operation on number texts, see chapter 2.
func Arith(op int, a, b string) (string, int) {
	n, err := arithTexts(op, a, b)
	if err != nil {
		return "", numberCode(err)
	}
	return FormatNumber(n), 0
}

// Compare compares number texts, see chapter 2.
func Compare(a, b string) (int, int) {
	x, err := readNumber(a)
	if err != nil {
		return 0, numberCode(err)
	}
	y, err := readNumber(b)
	if err != nil {
		return 0, numberCode(err)
	}
	return compareNumbers(x, y), 0
}

// ToInteger makes an integer of a number text, see chapter 2.
func ToInteger(a string) (string, int) {
	n, err := readNumber(a)
	if err != nil {
		return "", numberCode(err)
	}
	i, err := wholeOf(n)
	if err != nil {
		return "", numberCode(err)
	}
	return strconv.Itoa(i), 0
}

// numberCode is the code by which a face tells an error of this chapter.
func numberCode(err error) int {
	switch {
	case errors.Is(err, errNumText):
		return NumText
	case errors.Is(err, errNumOp):
		return NumOp
	case errors.Is(err, errNumZero):
		return NumZero
	case errors.Is(err, errNumRange):
		return NumRange
	case errors.Is(err, errNumWhole):
		return NumWhole
	}
	return 0
}

func integerNumber(i int) Number {
	return Number{Int: i}
}

// floatNumber makes a number of a float; all that are not a number become the one nan.
func floatNumber(f float64) Number {
	if math.IsNaN(f) {
		return Number{IsFloat: true, Bits: nanWord}
	}
	return Number{IsFloat: true, Bits: math.Float64bits(f)}
}

// floatOf is a number made a float.
func floatOf(n Number) float64 {
	if n.IsFloat {
		return math.Float64frombits(n.Bits)
	}
	return float64(n.Int)
}

// wholeOf is the integer that a number counts as where integers are asked for.
func wholeOf(n Number) (int, error) {
	if !n.IsFloat {
		return n.Int, nil
	}
	f := floatOf(n)
	if !fitsInteger(f) || f != math.Trunc(f) {
		return 0, errNumWhole
	}
	return int(f), nil
}

// fitsInteger tells whether a float lies from -2^63 to below 2^63; nan doesn't.
func fitsInteger(f float64) bool {
	return f >= -(1<<63) && f < 1<<63
}

func parseHexadecimal(digits string) (Number, bool) {
	var word uint64
	for i := range len(digits) {
		d, ok := hexDigit(digits[i])
		if !ok {
			return Number{}, false
		}
		word = word<<4 | uint64(d)
	}
	return integerNumber(int(word)), digits != ""
}

func hexDigit(b byte) (byte, bool) {
	switch {
	case b >= '0' && b <= '9':
		return b - '0', true
	case b >= 'a' && b <= 'f':
		return b - 'a' + 10, true
	case b >= 'A' && b <= 'F':
		return b - 'A' + 10, true
	}
	return 0, false
}

func parseDecimal(text string) (Number, bool) {
	if !isDecimal(text) {
		return Number{}, false
	}
	if areDigits(text) {
		if i, err := strconv.ParseInt(text, 10, 64); err == nil {
			return integerNumber(int(i)), true
		}
	}
	f, err := strconv.ParseFloat(text, 64)
	if err != nil {
		return Number{}, false
	}
	return floatNumber(f), true
}

// isDecimal looks at the form, because strconv takes more than the language does (signs, words, underscores).
func isDecimal(text string) bool {
	mantissa := text
	if at := strings.IndexAny(text, "eE"); at >= 0 {
		if !isExponent(text[at+1:]) {
			return false
		}
		mantissa = text[:at]
	}
	ahead, behind, _ := strings.Cut(mantissa, ".")
	return areDigits(ahead) && areDigits(behind) && ahead+behind != ""
}

// isExponent tells whether a text can stand behind the e of a numeral.
func isExponent(text string) bool {
	if text != "" && (text[0] == '+' || text[0] == '-') {
		text = text[1:]
	}
	return len(text) >= 1 && len(text) <= 3 && areDigits(text)
}

// areDigits tells whether a text has no byte but decimal digits.
func areDigits(text string) bool {
	for i := range len(text) {
		if text[i] < '0' || text[i] > '9' {
			return false
		}
	}
	return true
}

// parseSigned reads a numeral or a signed one.
func parseSigned(text string) (Number, bool) {
	numeral, negative := strings.CutPrefix(text, "-")
	n, ok := ParseNumber(numeral)
	if !ok || !negative {
		return n, ok
	}
	if areDigits(numeral) {
		// -2^63 is an integer though 2^63 is none, so the sign is read along with the digits.
		if i, err := strconv.ParseInt(text, 10, 64); err == nil {
			return integerNumber(int(i)), true
		}
	}
	return negate(n), true
}

// readNumber reads what the faces of this chapter take for a number.
func readNumber(text string) (Number, error) {
	switch text {
	case "nan":
		return floatNumber(math.NaN()), nil
	case "inf":
		return floatNumber(math.Inf(1)), nil
	case "-inf":
		return floatNumber(math.Inf(-1)), nil
	}
	n, ok := parseSigned(text)
	if !ok {
		return Number{}, errNumText
	}
	return n, nil
}

// formatMagnitude writes a finite float without sign.
func formatMagnitude(f float64) string {
	text := shortestText(f)
	mantissa, exponent, _ := strings.Cut(text, "e")
	e, _ := strconv.Atoi(exponent)
	if e < leastPlain || e > greatestPlain {
		return text
	}
	return plainText(strings.Replace(mantissa, ".", "", 1), e)
}

// shortestText is the float rounded to the fewest digits that read as it, with an exponent.
// (strconv's own shortest text won't do: next to a power of two it may be a neighbour of the rounded one.)
func shortestText(f float64) string {
	for behind := range mostDigits - 1 {
		text := strconv.FormatFloat(f, 'e', behind, 64)
		if back, err := strconv.ParseFloat(text, 64); err == nil && back == f {
			return text
		}
	}
	return strconv.FormatFloat(f, 'e', mostDigits-1, 64)
}

// plainText writes digits, of which the first has the weight 10^e, without an exponent.
func plainText(digits string, e int) string {
	switch {
	case e < 0:
		return "0." + strings.Repeat("0", -e-1) + digits
	case len(digits) > e+1:
		return digits[:e+1] + "." + digits[e+1:]
	}
	return digits + strings.Repeat("0", e+1-len(digits)) + ".0"
}

// arithTexts reads what the operation takes (an unknown one takes both, so that wrong texts are told first).
func arithTexts(op int, a, b string) (Number, error) {
	x, err := readNumber(a)
	if err != nil {
		return Number{}, err
	}
	if op == NumNeg || op == NumNot {
		return operate(op, x, x)
	}
	y, err := readNumber(b)
	if err != nil {
		return Number{}, err
	}
	return operate(op, x, y)
}

// operate does an operation on numbers; Neg and Not take no notice of y.
func operate(op int, x, y Number) (Number, error) {
	switch op {
	case NumAdd, NumSub, NumMul:
		return combine(op, x, y), nil
	case NumDiv:
		return floatNumber(floatOf(x) / floatOf(y)), nil
	case NumMod, NumIdiv:
		return divide(op, x, y)
	case NumPow:
		return power(floatOf(x), floatOf(y))
	case NumAnd, NumOr, NumXor, NumShl, NumShr:
		return bitwise(op, x, y)
	case NumNeg:
		return negate(x), nil
	case NumNot:
		i, err := wholeOf(x)
		if err != nil {
			return Number{}, err
		}
		return integerNumber(^i), nil
	}
	return Number{}, errNumOp
}

// combine adds, subtracts or multiplies.
func combine(op int, x, y Number) Number {
	if x.IsFloat || y.IsFloat {
		f, g := floatOf(x), floatOf(y)
		switch op {
		case NumAdd:
			return floatNumber(f + g)
		case NumSub:
			return floatNumber(f - g)
		}
		return floatNumber(f * g)
	}
	switch op {
	case NumAdd:
		return integerNumber(x.Int + y.Int)
	case NumSub:
		return integerNumber(x.Int - y.Int)
	}
	return integerNumber(x.Int * y.Int)
}

// divide gives the quotient rounded down, or the remainder that belongs to it.
func divide(op int, x, y Number) (Number, error) {
	if x.IsFloat || y.IsFloat {
		if op == NumMod {
			return floatNumber(remainder(floatOf(x), floatOf(y))), nil
		}
		return floatNumber(floor(floatOf(x) / floatOf(y))), nil
	}
	if y.Int == 0 {
		return Number{}, errNumZero
	}
	quotient, rest := x.Int/y.Int, x.Int%y.Int
	if rest != 0 && (rest < 0) != (y.Int < 0) {
		quotient--
		rest += y.Int
	}
	if op == NumMod {
		return integerNumber(rest), nil
	}
	return integerNumber(quotient), nil
}

// remainder is what is left of a float, brought to the side of the divisor.
func remainder(f, g float64) float64 {
	rest := math.Mod(f, g)
	if rest != 0 && math.Signbit(rest) != math.Signbit(g) {
		rest += g
	}
	return rest
}

// floor goes through an integer, so that its zero has no sign.
func floor(f float64) float64 {
	if math.Abs(f) < 1<<53 {
		return float64(int(math.Floor(f)))
	}
	return f
}

// power multiplies in the order that chapter 2 tells; another order would round otherwise.
func power(base, exponent float64) (Number, error) {
	whole := exponent == math.Trunc(exponent)
	if !whole || exponent < -greatestPower || exponent > greatestPower {
		return Number{}, errNumRange
	}
	result := 1.0
	for left := int(math.Abs(exponent)); left > 0; left >>= 1 {
		if left&1 == 1 {
			result *= base
		}
		base *= base
	}
	if exponent < 0 {
		result = 1 / result
	}
	return floatNumber(result), nil
}

// bitwise does the operations of two integers taken as bits.
func bitwise(op int, x, y Number) (Number, error) {
	i, err := wholeOf(x)
	if err != nil {
		return Number{}, err
	}
	j, err := wholeOf(y)
	if err != nil {
		return Number{}, err
	}
	switch op {
	case NumAnd:
		return integerNumber(i & j), nil
	case NumOr:
		return integerNumber(i | j), nil
	case NumXor:
		return integerNumber(i ^ j), nil
	case NumShl:
		return integerNumber(shift(i, j)), nil
	}
	// -2^63 turned round is itself, and moves all bits out on either side.
	return integerNumber(shift(i, -j)), nil
}

// shift moves bits to the left, or by a negative number to the right; the word has no sign, so that zeros come in.
func shift(i, by int) int {
	if by < 0 {
		return int(uint64(i) >> uint(-by))
	}
	return int(uint64(i) << uint(by))
}

func negate(n Number) Number {
	if n.IsFloat {
		return floatNumber(-floatOf(n))
	}
	return integerNumber(-n.Int)
}

// compareNumbers gives -1, 0 or 1, and 2 if one is not a number.
func compareNumbers(x, y Number) int {
	f, g := floatOf(x), floatOf(y)
	switch {
	case math.IsNaN(f) || math.IsNaN(g):
		return 2
	case x.IsFloat && y.IsFloat:
		return cmp.Compare(f, g)
	case y.IsFloat:
		return compareMixed(x.Int, g)
	case x.IsFloat:
		return -compareMixed(y.Int, f)
	}
	return cmp.Compare(x.Int, y.Int)
}

// compareMixed compares exactly: an integer made a float might lose its last digits.
func compareMixed(i int, f float64) int {
	if !fitsInteger(f) {
		if f > 0 {
			return -1
		}
		return 1
	}
	below := math.Floor(f)
	if order := cmp.Compare(i, int(below)); order != 0 {
		return order
	}
	return cmp.Compare(below, f)
}
