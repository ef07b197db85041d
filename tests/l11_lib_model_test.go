package tests

import (
	"fmt"
	"math"
	"math/big"
	"regexp"
	"slices"
	"strconv"
	"strings"
	"testing"

	"loop.example/g00002/impl"
)

// The model says chapter 12 once more: arguments by the letters with which the chapter tells them, numbers exactly, and
// patterns by the model of chapter 11.

func textLit(text string) impl.Lit { return impl.Lit{Kind: impl.LitText, Text: text} }

func intLit(i int) impl.Lit { return impl.Lit{Kind: impl.LitInt, Int: i} }

func floatLit(f float64) impl.Lit { return impl.Lit{Kind: impl.LitFloat, Bits: floatNumber(f).Bits} }

func boolLit(holds bool) impl.Lit {
	return map[bool]impl.Lit{true: {Kind: impl.LitBool, Int: 1}, false: {Kind: impl.LitBool}}[holds]
}

func litOf(n impl.Number) impl.Lit {
	if n.IsFloat {
		return floatLit(asFloat(n))
	}
	return intLit(n.Int)
}

func isNumberLit(l impl.Lit) bool { return l.Kind == impl.LitInt || l.Kind == impl.LitFloat }

func numberOfLit(l impl.Lit) impl.Number {
	if l.Kind == impl.LitFloat {
		return wordNumber(l.Bits)
	}
	return intNumber(l.Int)
}

// plainForms has for each primitive the arguments that it takes, as chapter 12 tells them: a capital letter may be missing.
var plainForms = map[string]string{
	"type": "v", "rawtostring": "v", "tonumber": "v", "rawequal": "vv", "select": "i",
	"string.len": "s", "string.sub": "sII", "string.upper": "s", "string.lower": "s", "string.reverse": "s",
	"string.rep": "siS", "string.byte": "sII", "string.char": "", "string.find": "ssI", "string.match": "ssI",
	"string.rawgsub": "sssI", "string.format": "s",
	"math.floor": "n", "math.abs": "n", "math.tointeger": "v", "math.type": "v", "math.ult": "ii",
}

// otherPrimitives are those of chapter 12 that aren't plain.
var otherPrimitives = strings.Fields(`rawlen rawget rawset next rawmeta setmetatable getmetatable write error pcall load
	collectgarbage table.unpack coroutine.create coroutine.resume coroutine.yield coroutine.status coroutine.running
	coroutine.isyieldable coroutine.close`)

func plainNames() []string {
	var names []string
	for name := range plainForms {
		names = append(names, name)
	}
	slices.Sort(names)
	return names
}

// modelIsPlain tells whether a value is plain.
func modelIsPlain(l impl.Lit) bool {
	f := math.Float64frombits(l.Bits)
	switch l.Kind {
	case impl.LitNil:
		return l.Int == 0 && l.Bits == 0 && l.Text == ""
	case impl.LitBool:
		return (l.Int == 0 || l.Int == 1) && l.Bits == 0 && l.Text == ""
	case impl.LitInt:
		return l.Bits == 0 && l.Text == ""
	case impl.LitFloat:
		return l.Int == 0 && l.Text == "" && (f == f || l.Bits == 0x7FF8000000000000)
	}
	return l.Kind == impl.LitText && l.Int == 0 && l.Bits == 0 && len(l.Text) <= 65536
}

// plainCall is a call of a primitive under way; why is the message with which it fails, once it does.
type plainCall struct {
	name string
	args []impl.Lit
	why  string
}

// modelCallPlain is what CallPlain must answer.
func modelCallPlain(name string, args []impl.Lit) ([]impl.Lit, string, int) {
	if len(args) > 1000 || slices.ContainsFunc(args, func(l impl.Lit) bool { return !modelIsPlain(l) }) {
		return nil, "", impl.PlainArg
	}
	form, known := plainForms[name]
	if !known {
		return nil, "", impl.PlainName
	}
	c := &plainCall{name: name, args: args}
	switch {
	case name == "tonumber" && c.has(2):
		form = "si"
	case name == "select" && c.has(1) && args[0] == textLit("#"):
		form = "v"
	}
	for i, letter := range form {
		c.look(i+1, letter)
	}
	var given []impl.Lit
	if c.why == "" {
		given = c.given()
	}
	if c.why != "" {
		return nil, c.why, impl.PlainError
	}
	return given, "", 0
}

// has tells whether there is an argument that isn't nil.
func (c *plainCall) has(number int) bool {
	return number <= len(c.args) && c.args[number-1].Kind != impl.LitNil
}

func (c *plainCall) fail(why string) {
	if c.why == "" {
		c.why = why
	}
}

func (c *plainCall) wrong(number int, why string) {
	c.fail(fmt.Sprintf("bad argument #%d to '%s' (%s)", number, c.name, why))
}

// look looks at an argument that is told by a letter.
func (c *plainCall) look(number int, letter rune) {
	got := "no value"
	var arg impl.Lit
	if number <= len(c.args) {
		arg = c.args[number-1]
		got = modelType(arg)
	}
	switch {
	case letter == 'I' || letter == 'S':
		if c.has(number) {
			c.look(number, letter-'A'+'a')
		}
	case letter == 'v':
		if got == "no value" {
			c.wrong(number, "value expected")
		}
	case letter == 's':
		if got != "string" && got != "number" {
			c.wrong(number, "string expected, got "+got)
		}
	case got != "number":
		c.wrong(number, "number expected, got "+got)
	case letter == 'i':
		if _, ok := modelWhole(numberOfLit(arg)); !ok {
			c.wrong(number, "number has no integer representation")
		}
	}
}

func modelType(l impl.Lit) string {
	return []string{"nil", "boolean", "number", "number", "string"}[l.Kind]
}

func modelShown(l impl.Lit) string {
	switch l.Kind {
	case impl.LitNil:
		return "nil"
	case impl.LitBool:
		return []string{"false", "true"}[l.Int]
	case impl.LitText:
		return l.Text
	}
	return modelFormat(numberOfLit(l))
}

// text is an argument that is right, as text.
func (c *plainCall) text(number int) string { return modelShown(c.args[number-1]) }

// whole is an argument that is right, as an integer; another number if it isn't there.
func (c *plainCall) whole(number, otherwise int) int {
	if !c.has(number) {
		return otherwise
	}
	i, _ := modelWhole(numberOfLit(c.args[number-1]))
	return i
}

// given are the values of a call whose arguments are right as far as their letters tell.
func (c *plainCall) given() []impl.Lit {
	switch c.name {
	case "type":
		return []impl.Lit{textLit(modelType(c.args[0]))}
	case "rawtostring":
		return []impl.Lit{textLit(c.text(1))}
	case "tonumber":
		return []impl.Lit{c.toNumber()}
	case "rawequal":
		return []impl.Lit{boolLit(modelEqual(c.args[0], c.args[1]))}
	case "select":
		return c.selected()
	case "string.len":
		return []impl.Lit{intLit(len(c.text(1)))}
	case "string.sub":
		return []impl.Lit{textLit(c.part(c.whole(2, 1), c.whole(3, -1)))}
	case "string.byte":
		return c.bytes()
	case "string.char":
		return c.chars()
	case "string.find", "string.match":
		return c.found()
	case "string.rawgsub":
		return c.replaced()
	case "string.format":
		return []impl.Lit{textLit(c.formatted())}
	case "math.floor", "math.abs", "math.tointeger", "math.type", "math.ult":
		return []impl.Lit{c.reckoned()}
	}
	return []impl.Lit{textLit(c.rewritten())}
}

var (
	signedForm  = regexp.MustCompile(`^[\t-\r ]*(-?[.0-9a-fA-FxX+-]+)[\t-\r ]*$`)
	basedForm   = regexp.MustCompile(`^[\t-\r ]*(-?[0-9a-zA-Z]+)[\t-\r ]*$`)
	convertForm = regexp.MustCompile(`^%([-0+]*)([0-9]{0,2})(\.[0-9]{0,2})?([dxXcsqf])`)
)

func (c *plainCall) toNumber() impl.Lit {
	if !c.has(2) {
		if isNumberLit(c.args[0]) {
			return c.args[0]
		}
		if read := signedForm.FindStringSubmatch(c.args[0].Text); read != nil {
			if n, ok := modelRead(read[1]); ok {
				return litOf(n)
			}
		}
		return impl.Lit{}
	}
	base := c.whole(2, 0)
	if base < 2 || base > 36 {
		c.wrong(2, "base out of range")
		return impl.Lit{}
	}
	if read := basedForm.FindStringSubmatch(c.text(1)); read != nil {
		if i, ok := new(big.Int).SetString(read[1], base); ok {
			return intLit(wrapped(i))
		}
	}
	return impl.Lit{}
}

func modelEqual(a, b impl.Lit) bool {
	if isNumberLit(a) && isNumberLit(b) {
		return modelCompare(numberOfLit(a), numberOfLit(b)) == 0
	}
	return a == b
}

func (c *plainCall) selected() []impl.Lit {
	if c.args[0].Text == "#" {
		return []impl.Lit{intLit(len(c.args[1:]))}
	}
	first := c.whole(1, 0)
	var list []impl.Lit
	within := first > 0
	for i, arg := range c.args[1:] {
		fromEnd := i - len(c.args[1:])
		within = within || fromEnd == first
		if first > 0 && i+1 >= first || first < 0 && fromEnd >= first {
			list = append(list, arg)
		}
	}
	if !within {
		c.wrong(1, "index out of range")
	}
	return list
}

// part is what lies from i to j of the first argument: each byte has two numbers, from the start and from the end.
func (c *plainCall) part(i, j int) string {
	var part []byte
	text := c.text(1)
	for k, b := range []byte(text) {
		isBehind := i >= 0 && k+1 >= i || i < 0 && k-len(text) >= i
		isAhead := j >= 0 && k+1 <= j || j < 0 && k-len(text) <= j
		if isBehind && isAhead {
			part = append(part, b)
		}
	}
	return string(part)
}

func (c *plainCall) bytes() []impl.Lit {
	part := c.part(c.whole(2, 1), c.whole(3, c.whole(2, 1)))
	if len(part) > 1000 {
		c.fail("too many values")
	}
	var list []impl.Lit
	for _, b := range []byte(part) {
		list = append(list, intLit(int(b)))
	}
	return list
}

func (c *plainCall) chars() []impl.Lit {
	text := ""
	for number := range c.args {
		c.look(number+1, 'i')
		code := c.whole(number+1, 0)
		if code < 0 || code > 255 {
			c.wrong(number+1, "value out of range")
		}
		text += string([]byte{byte(code)})
	}
	return []impl.Lit{textLit(text)}
}

// rewritten is the text of those primitives that make one of a text alone, and of string.rep.
func (c *plainCall) rewritten() string {
	var text []byte
	switch c.name {
	case "string.upper", "string.lower":
		from, to := theSmall, theLarge
		if c.name == "string.lower" {
			from, to = to, from
		}
		for _, b := range []byte(c.text(1)) {
			if at := strings.IndexByte(from, b); at >= 0 {
				b = to[at]
			}
			text = append(text, b)
		}
	case "string.reverse":
		for at := len(c.text(1)) - 1; at >= 0; at-- {
			text = append(text, c.text(1)[at])
		}
	case "string.rep":
		return c.repeated()
	}
	return string(text)
}

func (c *plainCall) repeated() string {
	between := ""
	if c.has(3) {
		between = c.text(3)
	}
	var text []byte
	count := c.whole(2, 0)
	if c.text(1)+between == "" {
		count = 0
	}
	for i := 0; i < count && len(text) <= 65536; i++ {
		if i > 0 {
			text = append(text, between...)
		}
		text = append(text, c.text(1)...)
	}
	if len(text) > 65536 {
		c.fail("string too long")
	}
	return string(text)
}

// messageOf is what a primitive says of a code of chapter 11.
func messageOf(code int) string {
	return map[int]string{
		impl.PatternBad: "malformed pattern", impl.PatternSteps: "pattern too complex",
		impl.PatternRepl: "invalid use of '%' in a replacement", impl.PatternLong: "string too long",
	}[code]
}

func (c *plainCall) found() []impl.Lit {
	subject := c.text(1)
	init := c.whole(3, 1)
	if init < 0 {
		init = max(init, -len(subject)) + len(subject) + 1
	}
	if init = max(init, 1); init > len(subject)+1 {
		return []impl.Lit{{}}
	}
	found, is, code := modelFind(subject, c.text(2), init-1)
	c.fail(messageOf(code))
	if !is {
		return []impl.Lit{{}}
	}
	var list []impl.Lit
	for _, capture := range found.Caps {
		if capture.Place {
			list = append(list, intLit(capture.From+1))
		} else {
			list = append(list, textLit(subject[capture.From:capture.To]))
		}
	}
	if c.name == "string.find" {
		return slices.Concat([]impl.Lit{intLit(found.From + 1), intLit(found.To)}, list)
	}
	if list == nil {
		return []impl.Lit{textLit(subject[found.From:found.To])}
	}
	return list
}

func (c *plainCall) replaced() []impl.Lit {
	text, count, code := modelGsub(c.text(1), c.text(2), c.text(3), c.whole(4, math.MaxInt))
	c.fail(messageOf(code))
	return []impl.Lit{textLit(text), intLit(count)}
}

// reckoned is what the primitives of math give.
func (c *plainCall) reckoned() impl.Lit {
	n := numberOfLit(c.args[0])
	f := asFloat(n)
	i, isWhole := modelWhole(n)
	switch {
	case c.name == "math.type":
		return map[int]impl.Lit{impl.LitInt: textLit("integer"), impl.LitFloat: textLit("float")}[c.args[0].Kind]
	case c.name == "math.tointeger":
		if isNumberLit(c.args[0]) && isWhole {
			return intLit(i)
		}
		return impl.Lit{}
	case c.name == "math.ult":
		word := func(number int) *big.Int { return new(big.Int).SetUint64(uint64(c.whole(number, 0))) }
		return boolLit(word(1).Cmp(word(2)) < 0)
	case c.name == "math.abs" && n.IsFloat:
		return floatLit(math.Float64frombits(n.Bits &^ (1 << 63)))
	case c.name == "math.abs":
		return intLit(wrapped(new(big.Int).Abs(big.NewInt(int64(n.Int)))))
	case math.IsNaN(f) || math.IsInf(f, 0):
		return c.args[0]
	}
	if down := floorOf(exactly(n)); down.IsInt64() {
		return intLit(int(down.Int64()))
	}
	return c.args[0]
}

// formatted is the text of string.format: each piece of the format is read by its form.
func (c *plainCall) formatted() string {
	var text []byte
	format := c.text(1)
	next := 2
	for format != "" && c.why == "" {
		length := 1
		switch {
		case format[0] != '%':
			text = append(text, format[0])
		case strings.HasPrefix(format, "%%"):
			text = append(text, '%')
			length = 2
		default:
			read := convertForm.FindStringSubmatch(format)
			if read == nil {
				c.fail("invalid conversion in 'string.format'")
				break
			}
			text = append(text, c.converted(read, next)...)
			next++
			length = len(read[0])
		}
		format = format[length:]
	}
	if len(text) > 65536 {
		c.fail("string too long")
	}
	return string(text)
}

// converted is what an argument stands for, by the parts of its conversion: flags, width, point and precision, letter.
func (c *plainCall) converted(read []string, number int) string {
	flags, letter := read[1], read[4]
	asked := map[string]rune{"d": 'i', "x": 'i', "X": 'i', "c": 'i', "s": 'v', "q": 'v', "f": 'n'}[letter]
	if c.look(number, asked); c.why != "" {
		return ""
	}
	width, _ := strconv.Atoi(read[2])
	precision := -1
	if read[3] != "" {
		precision, _ = strconv.Atoi("0" + read[3][1:])
	}
	sign, body := writtenBody(c.args[number-1], letter, precision)
	if sign == "" && strings.Contains(flags, "+") && strings.Contains("df", letter) {
		sign = "+"
	}
	isFinite := body != "nan" && body != "inf"
	zeros := strings.Contains("dxX", letter) && precision < 0 || letter == "f" && isFinite
	for len(sign)+len(body) < width {
		switch {
		case strings.Contains(flags, "-"):
			body += " "
		case zeros && strings.Contains(flags, "0"):
			body = "0" + body
		default:
			sign = " " + sign
		}
	}
	return sign + body
}

// writtenBody is an argument converted, without its width and a +; a precision below 0 is none.
func writtenBody(arg impl.Lit, letter string, precision int) (sign, body string) {
	i, _ := modelWhole(numberOfLit(arg))
	switch letter {
	case "c":
		return "", string([]byte{byte(new(big.Int).Mod(big.NewInt(int64(i)), big.NewInt(256)).Int64())})
	case "s":
		shown := modelShown(arg)
		if precision >= 0 && precision < len(shown) {
			shown = shown[:precision]
		}
		return "", shown
	case "q":
		if arg.Kind != impl.LitText {
			return "", modelShown(arg)
		}
		var quoted []byte
		for _, b := range []byte(arg.Text) {
			one := modelText(impl.Token{Kind: impl.TokString, Text: string([]byte{b})})
			quoted = append(quoted, one[1:len(one)-1]...)
		}
		return "", `"` + string(quoted) + `"`
	case "f":
		return modelFixed(asFloat(numberOfLit(arg)), precision)
	case "d":
		if i < 0 {
			sign = "-"
		}
		body = new(big.Int).Abs(big.NewInt(int64(i))).String()
	case "x":
		body = new(big.Int).SetUint64(uint64(i)).Text(16)
	case "X":
		body = fmt.Sprintf("%X", new(big.Int).SetUint64(uint64(i)))
	}
	for len(body) < precision {
		body = "0" + body
	}
	return sign, body
}

// modelFixed is a float with so many digits behind the point, 6 if that is below 0.
func modelFixed(f float64, precision int) (sign, body string) {
	if math.Signbit(f) && !math.IsNaN(f) {
		sign = "-"
	}
	switch {
	case math.IsNaN(f):
		return "", "nan"
	case math.IsInf(f, 0):
		return sign, "inf"
	case precision < 0:
		precision = 6
	}
	value := new(big.Rat).SetFloat64(math.Abs(f))
	value.Mul(value, powerOfTen(precision))
	digits, rest := new(big.Int).QuoRem(value.Num(), value.Denom(), new(big.Int))
	half := rest.Lsh(rest, 1).Cmp(value.Denom())
	if half > 0 || half == 0 && digits.Bit(0) == 1 {
		digits.Add(digits, big.NewInt(1))
	}
	body = digits.String()
	for len(body) <= precision {
		body = "0" + body
	}
	if precision > 0 {
		body = body[:len(body)-precision] + "." + body[len(body)-precision:]
	}
	return sign, body
}

// litText tells a plain value as text; all of it if it isn't what a plain value is.
func litText(l impl.Lit) string {
	switch {
	case !modelIsPlain(l):
		return fmt.Sprintf("%+v", l)
	case l.Kind == impl.LitText:
		return short(l.Text)
	}
	return modelShown(l)
}

func litsText(list []impl.Lit) string {
	var texts []string
	for _, l := range list {
		texts = append(texts, litText(l))
	}
	if len(texts) > 20 {
		texts = append(texts[:20], fmt.Sprintf(".. %d in all", len(list)))
	}
	return strings.Join(texts, " ")
}

// plainAnswer is all that CallPlain answers.
type plainAnswer struct {
	values  []impl.Lit
	message string
	code    int
}

func programAnswer(name string, args []impl.Lit) plainAnswer {
	values, message, code := impl.CallPlain(name, args)
	return plainAnswer{values, message, code}
}

func modelAnswer(name string, args []impl.Lit) plainAnswer {
	values, message, code := modelCallPlain(name, args)
	return plainAnswer{values, message, code}
}

func (a plainAnswer) is(b plainAnswer) bool {
	return slices.Equal(a.values, b.values) && a.message == b.message && a.code == b.code
}

func (a plainAnswer) String() string {
	return fmt.Sprintf("%s, %q, code %d", litsText(a.values), a.message, a.code)
}

// checkPlain holds an answer of CallPlain against what is told by hand, and against the model.
func checkPlain(t *testing.T, name string, args []impl.Lit, want plainAnswer) {
	t.Helper()
	if got := programAnswer(name, args); !got.is(want) {
		t.Errorf("%s(%s) = %v, not %v", name, litsText(args), got, want)
	}
	if got := modelAnswer(name, args); !got.is(want) {
		t.Errorf("the model: %s(%s) = %v, not %v", name, litsText(args), got, want)
	}
}

// checkPlainByModel holds an answer of CallPlain against the model alone.
func checkPlainByModel(t *testing.T, name string, args []impl.Lit) plainAnswer {
	t.Helper()
	want := modelAnswer(name, args)
	if got := programAnswer(name, args); !got.is(want) {
		t.Errorf("%s(%s) = %v, not %v", name, litsText(args), got, want)
	}
	return want
}
