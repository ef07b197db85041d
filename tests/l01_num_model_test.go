package tests

import (
	"math"
	"math/big"
	"regexp"
	"strconv"
	"strings"

	"loop.example/g00002/impl"
)

// This file says chapter 2 once more, by exact numbers and without regard to speed; the tests hold the program against it.

var (
	decimalForm = regexp.MustCompile(`^([0-9]+\.?[0-9]*|\.[0-9]+)([eE][+-]?[0-9]{1,3})?$`)
	hexForm     = regexp.MustCompile(`^0[xX][0-9a-fA-F]+$`)
	digitsForm  = regexp.MustCompile(`^[0-9]+$`)
)

func intNumber(i int) impl.Number { return impl.Number{Int: i} }

func wordNumber(w uint64) impl.Number { return impl.Number{IsFloat: true, Bits: w} }

func floatNumber(f float64) impl.Number {
	if math.IsNaN(f) {
		return wordNumber(0x7FF8000000000000)
	}
	return wordNumber(math.Float64bits(f))
}

func asFloat(n impl.Number) float64 {
	if n.IsFloat {
		return math.Float64frombits(n.Bits)
	}
	return float64(n.Int)
}

// exactly is the value of a finite number.
func exactly(n impl.Number) *big.Rat {
	if n.IsFloat {
		return new(big.Rat).SetFloat64(asFloat(n))
	}
	return new(big.Rat).SetInt64(int64(n.Int))
}

func powerOfTen(e int) *big.Rat {
	p := new(big.Rat).SetInt(new(big.Int).Exp(big.NewInt(10), big.NewInt(int64(max(e, -e))), nil))
	if e < 0 {
		p.Inv(p)
	}
	return p
}

// wrapped brings an integer into 64 bits.
func wrapped(i *big.Int) int {
	m := new(big.Int).Mod(i, new(big.Int).Lsh(big.NewInt(1), 64))
	return int(m.Uint64())
}

// modelParse is what ParseNumber must answer.
func modelParse(text string) (impl.Number, bool) {
	switch {
	case len(text) > 100:
		return impl.Number{}, false
	case hexForm.MatchString(text):
		i, _ := new(big.Int).SetString(text[2:], 16)
		return intNumber(wrapped(i)), true
	case !decimalForm.MatchString(text):
		return impl.Number{}, false
	case digitsForm.MatchString(text):
		if i, _ := new(big.Int).SetString(text, 10); i.IsInt64() {
			return intNumber(int(i.Int64())), true
		}
	}
	mantissa, exponent, _ := strings.Cut(strings.ToLower(text), "e")
	ahead, behind, _ := strings.Cut(mantissa, ".")
	e, _ := strconv.Atoi(exponent)
	digits, _ := new(big.Int).SetString(ahead+behind, 10)
	value := new(big.Rat).SetInt(digits)
	f, _ := value.Mul(value, powerOfTen(e-len(behind))).Float64()
	if math.IsInf(f, 0) {
		return impl.Number{}, false
	}
	return floatNumber(f), true
}

// modelRead is the number of a text as Arith takes it.
func modelRead(text string) (impl.Number, bool) {
	switch text {
	case "nan":
		return floatNumber(math.NaN()), true
	case "inf":
		return floatNumber(math.Inf(1)), true
	case "-inf":
		return floatNumber(math.Inf(-1)), true
	}
	numeral, negative := strings.CutPrefix(text, "-")
	n, ok := modelParse(numeral)
	if !ok || !negative {
		return n, ok
	}
	if strings.TrimLeft(numeral, "0") == "9223372036854775808" {
		return intNumber(math.MinInt), true
	}
	if n.IsFloat {
		return floatNumber(-asFloat(n)), true
	}
	return intNumber(-n.Int), true
}

// roundTo rounds a finite float above 0 to k digits, of two as near to the even one; the first has the weight 10^e.
func roundTo(f float64, k int) (digits string, e int) {
	value := new(big.Rat).SetFloat64(f)
	e = int(math.Floor(math.Log10(f)))
	for powerOfTen(e).Cmp(value) > 0 {
		e--
	}
	for powerOfTen(e+1).Cmp(value) <= 0 {
		e++
	}
	value.Mul(value, powerOfTen(k-1-e))
	twice := new(big.Int).Lsh(value.Denom(), 1)
	quotient, rest := new(big.Int).QuoRem(value.Num(), value.Denom(), new(big.Int))
	switch order := rest.Lsh(rest, 2).Cmp(twice); {
	case order > 0, order == 0 && quotient.Bit(0) == 1:
		quotient.Add(quotient, big.NewInt(1))
	}
	digits = quotient.String()
	if len(digits) > k {
		return digits[:k], e + 1
	}
	return digits, e
}

// readDigits is the float nearest to digits of which the first has the weight 10^e.
func readDigits(digits string, e int) float64 {
	i, _ := new(big.Int).SetString(digits, 10)
	value := new(big.Rat).SetInt(i)
	f, _ := value.Mul(value, powerOfTen(e-len(digits)+1)).Float64()
	return f
}

// fewestDigits are the digits that chapter 2 asks for, of a finite float above 0.
func fewestDigits(f float64) (digits string, e int) {
	for k := 1; k <= 17; k++ {
		digits, e = roundTo(f, k)
		if readDigits(digits, e) == f {
			break
		}
	}
	return digits, e
}

// modelFormat is what FormatNumber must answer.
func modelFormat(n impl.Number) string {
	f := asFloat(n)
	switch {
	case !n.IsFloat:
		return big.NewInt(int64(n.Int)).String()
	case math.IsNaN(f):
		return "nan"
	case math.IsInf(f, 0):
		return map[bool]string{true: "inf", false: "-inf"}[f > 0]
	case math.Signbit(f):
		return "-" + modelFormat(floatNumber(-f))
	case f == 0:
		return "0.0"
	}
	digits, e := fewestDigits(f)
	if e >= -5 && e <= 16 {
		return modelPlain(digits, e)
	}
	text := digits[:1]
	if len(digits) > 1 {
		text += "." + digits[1:]
	}
	if e < 0 {
		return text + "e-" + twoDigits(-e)
	}
	return text + "e+" + twoDigits(e)
}

func modelPlain(digits string, e int) string {
	for ; e < 0; e++ {
		digits = "0" + digits
	}
	for len(digits) < e+2 {
		digits += "0"
	}
	return digits[:e+1] + "." + digits[e+1:]
}

func twoDigits(e int) string {
	if e < 10 {
		return "0" + strconv.Itoa(e)
	}
	return strconv.Itoa(e)
}

// modelWhole is the integer that a number counts as.
func modelWhole(n impl.Number) (int, bool) {
	f := asFloat(n)
	if n.IsFloat && (math.IsNaN(f) || math.IsInf(f, 0)) {
		return 0, false
	}
	value := exactly(n)
	if !value.IsInt() || !value.Num().IsInt64() {
		return 0, false
	}
	return int(value.Num().Int64()), true
}

// modelCompare is what Compare must answer for two numbers.
func modelCompare(x, y impl.Number) int {
	f, g := asFloat(x), asFloat(y)
	switch {
	case math.IsNaN(f) || math.IsNaN(g):
		return 2
	case math.IsInf(f, 0) || math.IsInf(g, 0):
		// No finite float is as far out as these, so it doesn't matter what was lost.
		switch {
		case f < g:
			return -1
		case f > g:
			return 1
		}
		return 0
	}
	return exactly(x).Cmp(exactly(y))
}

// modelArith is what Arith must make of two numbers.
func modelArith(op int, x, y impl.Number) (impl.Number, int) {
	switch {
	case op < impl.NumAdd || op > impl.NumNot:
		return impl.Number{}, impl.NumOp
	case op == impl.NumPow:
		return modelPower(asFloat(x), asFloat(y))
	case op == impl.NumNeg && x.IsFloat:
		return floatNumber(-asFloat(x)), 0
	case op >= impl.NumAnd && op != impl.NumNeg:
		return modelBits(op, x, y)
	case op == impl.NumDiv || op != impl.NumNeg && (x.IsFloat || y.IsFloat):
		return floatNumber(modelFloats(op, asFloat(x), asFloat(y))), 0
	}
	a, b := big.NewInt(int64(x.Int)), big.NewInt(int64(y.Int))
	if (op == impl.NumMod || op == impl.NumIdiv) && y.Int == 0 {
		return impl.Number{}, impl.NumZero
	}
	return intNumber(wrapped(modelIntegers(op, a, b))), 0
}

func modelIntegers(op int, a, b *big.Int) *big.Int {
	switch op {
	case impl.NumAdd:
		return new(big.Int).Add(a, b)
	case impl.NumSub:
		return new(big.Int).Sub(a, b)
	case impl.NumMul:
		return new(big.Int).Mul(a, b)
	case impl.NumNeg:
		return new(big.Int).Neg(a)
	}
	quotient := floorOf(new(big.Rat).SetFrac(a, b))
	if op == impl.NumMod {
		return new(big.Int).Sub(a, new(big.Int).Mul(quotient, b))
	}
	return quotient
}

// floorOf leans on Div of big.Int, which rounds down for a divisor above 0, as a denominator is.
func floorOf(r *big.Rat) *big.Int { return new(big.Int).Div(r.Num(), r.Denom()) }

func modelFloats(op int, f, g float64) float64 {
	switch op {
	case impl.NumAdd:
		return f + g
	case impl.NumSub:
		return f - g
	case impl.NumMul:
		return f * g
	case impl.NumDiv:
		return f / g
	case impl.NumMod:
		return modelRemainder(f, g)
	}
	quotient := f / g
	if math.Abs(quotient) < 1<<53 {
		down, _ := new(big.Rat).SetInt(floorOf(new(big.Rat).SetFloat64(quotient))).Float64()
		return down
	}
	return quotient
}

func modelRemainder(f, g float64) float64 {
	switch {
	case math.IsNaN(f) || math.IsNaN(g) || math.IsInf(f, 0) || g == 0:
		return math.NaN()
	case math.IsInf(g, 0):
		if f == 0 || math.Signbit(f) == math.Signbit(g) {
			return f
		}
		return g
	}
	a, b := new(big.Rat).SetFloat64(math.Abs(f)), new(big.Rat).SetFloat64(math.Abs(g))
	times := new(big.Rat).SetInt(floorOf(new(big.Rat).Quo(a, b)))
	magnitude, _ := a.Sub(a, times.Mul(times, b)).Float64()
	rest := math.Copysign(magnitude, f)
	if rest != 0 && math.Signbit(rest) != math.Signbit(g) {
		return rest + g
	}
	return rest
}

func modelPower(f, g float64) (impl.Number, int) {
	if g != math.Trunc(g) || !(math.Abs(g) <= 1023) {
		return impl.Number{}, impl.NumRange
	}
	bits := strconv.FormatInt(int64(math.Abs(g)), 2)
	r, s := 1.0, f
	for i := len(bits) - 1; i >= 0; i-- {
		if bits[i] == '1' {
			r = r * s
		}
		s = s * s
	}
	if g < 0 {
		r = 1 / r
	}
	return floatNumber(r), 0
}

func modelBits(op int, x, y impl.Number) (impl.Number, int) {
	i, ok := modelWhole(x)
	j := 0
	if ok && op != impl.NumNot {
		j, ok = modelWhole(y)
	}
	if !ok {
		return impl.Number{}, impl.NumWhole
	}
	switch op {
	case impl.NumAnd:
		return intNumber(i & j), 0
	case impl.NumOr:
		return intNumber(i | j), 0
	case impl.NumXor:
		return intNumber(i ^ j), 0
	case impl.NumNot:
		return intNumber(-1 - i), 0
	}
	left, by := op == impl.NumShl, new(big.Int).Abs(big.NewInt(int64(j)))
	if j < 0 {
		left = !left
	}
	if by.Cmp(big.NewInt(64)) >= 0 {
		return intNumber(0), 0
	}
	word := new(big.Int).SetUint64(uint64(i))
	if left {
		return intNumber(wrapped(word.Lsh(word, uint(by.Int64())))), 0
	}
	return intNumber(wrapped(word.Rsh(word, uint(by.Int64())))), 0
}

// words gives a row of 64-bit words that looks like chance and is always the same.
func words(count int) []uint64 {
	row := make([]uint64, count)
	w := uint64(0x9E3779B97F4A7C15)
	for i := range row {
		w ^= w << 13
		w ^= w >> 7
		w ^= w << 17
		row[i] = w
	}
	return row
}
