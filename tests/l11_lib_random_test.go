package tests

import (
	"math"
	"strconv"
	"strings"
	"testing"

	"loop.example/g00002/impl"
)

// callMaker makes calls of primitives, with arguments of which most are right.
type callMaker struct {
	*patternGrower
}

func (m *callMaker) word() uint64 { return uint64(m.pick(1<<32))<<32 | uint64(m.pick(1<<32)) }

func (m *callMaker) integer() int {
	switch m.pick(8) {
	case 0:
		return int(m.word())
	case 1:
		return []int{math.MinInt, math.MaxInt, math.MinInt + 1, 65536, 65537, 1000, 256, 255}[m.pick(8)]
	case 2:
		return m.pick(600) - 300
	}
	return m.pick(12) - 5
}

func (m *callMaker) float() float64 {
	switch m.pick(6) {
	case 0:
		return math.Float64frombits(m.word())
	case 1:
		return []float64{math.NaN(), math.Inf(1), math.Inf(-1), math.Copysign(0, -1), 1 << 63, -1 << 63, 1 << 53, 0.5}[m.pick(8)]
	case 2:
		return float64(m.pick(2000)-1000) / 8
	case 3:
		return float64(m.pick(100000)) / 1000
	}
	return float64(m.pick(12) - 5)
}

// numeral makes a text that may well read as a number.
func (m *callMaker) numeral() string {
	blank := func() string { return m.some(2, func() string { return m.one(" ", "\t", "\n", "\v", "\f", "\r") }) }
	body := m.one(strconv.Itoa(m.integer()), modelFormat(floatNumber(m.float())), m.one("0x", "0X")+m.some(18, func() string {
		return theHex[m.pick(len(theHex)):][:1]
	}), m.some(6, func() string { return m.one("1", "2", "9", "0", ".", "e", "-", "+", "x", "a", "z", "Z", " ") }))
	return blank() + m.one("", "", "", "-", "-", "+") + body + blank()
}

func (m *callMaker) text() string {
	if m.pick(3) == 0 {
		return m.numeral()
	}
	return m.subject(12)
}

// value makes a value of any kind.
func (m *callMaker) value() impl.Lit {
	switch m.pick(6) {
	case 0:
		return impl.Lit{}
	case 1:
		return boolLit(m.pick(2) == 0)
	case 2:
		return floatLit(m.float())
	case 3:
		return intLit(m.integer())
	}
	return textLit(m.text())
}

// letter makes an argument that is told by a letter of chapter 12; a wrong one sometimes.
func (m *callMaker) letter(letter rune) impl.Lit {
	if m.pick(15) == 0 || letter == 'v' {
		return m.value()
	}
	switch letter {
	case 'I', 'S':
		if m.pick(4) == 0 {
			return impl.Lit{}
		}
		return m.letter(letter - 'A' + 'a')
	case 's':
		if m.pick(6) == 0 {
			return m.letter('n')
		}
		return textLit(m.text())
	case 'n':
		if m.pick(2) == 0 {
			return floatLit(m.float())
		}
	case 'i':
		if m.pick(5) == 0 {
			return floatLit(float64(m.pick(12) - 4))
		}
	}
	return intLit(m.integer())
}

// arguments makes those of a primitive: as many as it takes, sometimes fewer or more.
func (m *callMaker) arguments(name string) []impl.Lit {
	var args []impl.Lit
	switch name {
	case "tonumber":
		return m.numberArguments()
	case "string.format":
		return m.formatArguments()
	case "string.char":
		for range m.pick(6) {
			code := intLit(m.pick(258) - 1)
			if m.pick(12) == 0 {
				code = m.letter('i')
			}
			args = append(args, code)
		}
		return args
	}
	for _, letter := range plainForms[name] {
		args = append(args, m.letter(letter))
	}
	switch name {
	case "string.find", "string.match", "string.rawgsub":
		if m.pick(8) > 0 {
			args[1] = textLit(m.pattern(m.one("", "", "", "^")))
		}
		if name == "string.rawgsub" && m.pick(8) > 0 {
			args[2] = textLit(m.some(4, func() string { return m.one("x", "%0", "%1", "%1", "%%", "%2", "%", "yy") }))
		}
	case "select":
		args[0] = []impl.Lit{textLit("#"), intLit(m.pick(9) - 4), intLit(m.pick(9) - 4), args[0]}[m.pick(4)]
		for range m.pick(5) {
			args = append(args, m.value())
		}
		return args
	case "rawequal":
		if m.pick(3) == 0 {
			args[1] = args[0]
		}
	}
	switch m.pick(10) {
	case 0:
		return args[:m.pick(len(args)+1)]
	case 1:
		return append(args, m.value())
	}
	return args
}

func (m *callMaker) numberArguments() []impl.Lit {
	args := []impl.Lit{m.letter('s'), intLit(2 + m.pick(35))}
	switch m.pick(6) {
	case 0:
		args[1] = m.letter('I')
	case 1:
		args = args[:1]
	case 2:
		args[0] = textLit(m.numeral())
		args = args[:1]
	case 3:
		digits := func() string { return "0123456789abcdefxyzABCXYZ"[m.pick(25):][:1] }
		args[0] = textLit(m.one("", "-", " ", "--") + m.some(15, digits) + m.one("", " ", "."))
	}
	return args
}

// formatArguments makes a format, and arguments of which most are what it asks for.
func (m *callMaker) formatArguments() []impl.Lit {
	args := []impl.Lit{{}}
	format := m.text()
	for range m.pick(5) {
		letter := m.one("d", "d", "x", "X", "c", "s", "s", "q", "f", "f", "f")
		asked := map[string]rune{"s": 'v', "q": 'v', "f": 'n'}[letter]
		if asked == 0 {
			asked = 'i'
		}
		args = append(args, m.letter(asked))
		width := m.one("", "", strconv.Itoa(m.pick(10)), strconv.Itoa(m.pick(100)))
		precision := m.one("", "", ".", "."+strconv.Itoa(m.pick(10)), "."+strconv.Itoa(m.pick(100)))
		format += "%" + m.some(2, func() string { return m.one("-", "0", "+") }) + width + precision + letter
		format += m.one("", "", " ", "%%", "|", m.one("%y", "%", "%100d", "% d", "", "", "", ""))
	}
	args[0] = textLit(format)
	if m.pick(12) == 0 {
		return args[:m.pick(len(args))+1]
	}
	return args
}

// eachCall makes calls of all primitives in turn.
func eachCall(count int, do func(m *callMaker, name string)) {
	names := plainNames()
	at := 0
	eachPattern(count, func(g *patternGrower) {
		do(&callMaker{g}, names[at%len(names)])
		at++
	})
}

// Promise 17: each primitive, at arguments made at random, gives what chapter 12 says, or its message.
func TestCallPlainAsTheModel(t *testing.T) {
	given := map[string]map[string]int{}
	eachCall(60000, func(m *callMaker, name string) {
		answer := checkPlainByModel(t, name, m.arguments(name))
		if given[name] == nil {
			given[name] = map[string]int{}
		}
		given[name][answer.message]++
	})
	for name, messages := range given {
		if whole := messages[""]; whole < 900 {
			t.Errorf("%s has given values just %d times", name, whole)
		}
		if len(messages) < 2 {
			t.Errorf("%s has told no message", name)
		}
	}
	for name, want := range map[string]string{
		"tonumber": "bad argument #2 to 'tonumber' (base out of range)", "select": "bad argument #1 to 'select' (index out of range)",
		"string.rep": "string too long", "string.char": "bad argument #2 to 'string.char' (value out of range)",
		"string.find": "malformed pattern", "string.match": "malformed pattern", "string.rawgsub": "invalid use of '%' in a replacement",
		"string.format": "invalid conversion in 'string.format'",
	} {
		if given[name][want] < 20 {
			t.Errorf("%s has told %q just %d times", name, want, given[name][want])
		}
	}
}

// Texts and numbers that read as each other: what is taken for a string is taken as it is shown.
func TestCallPlainNumbersAsTexts(t *testing.T) {
	eachCall(20000, func(m *callMaker, name string) {
		args := m.arguments(name)
		for i, letter := range plainForms[name] {
			if letter != 's' || i >= len(args) || !isNumberLit(args[i]) || name == "string.format" {
				continue
			}
			want := programAnswer(name, args)
			args[i] = textLit(impl.FormatNumber(numberOfLit(args[i])))
			if got := programAnswer(name, args); !got.is(want) {
				t.Errorf("%s(%s) = %v, not %v", name, litsText(args), got, want)
			}
		}
	})
}

// An answer comes at every name and every argument, and of what is no plain call just the code.
func TestCallPlainOfAnything(t *testing.T) {
	codes := map[int]int{}
	wrong := noLits()
	eachCall(20000, func(m *callMaker, name string) {
		args := m.arguments(name)
		switch m.pick(6) {
		case 0:
			name = m.one(name+".", strings.ToUpper(name), name[1:], "x"+name, otherPrimitives[m.pick(len(otherPrimitives))], "")
		case 1:
			args = append(args, wrong[m.pick(len(wrong))])
		case 2:
			args = many(m.value(), m.pick(1200))
		case 3:
			var others []impl.Lit
			for range m.pick(6) {
				others = append(others, m.value())
			}
			args = others
		}
		codes[checkPlainByModel(t, name, args).code]++
	})
	for code, least := range map[int]int{0: 2000, impl.PlainName: 500, impl.PlainArg: 1000, impl.PlainError: 2000} {
		if codes[code] < least {
			t.Errorf("code %d just %d times", code, codes[code])
		}
	}
}

// Promise 17 for one primitive beside another: what they give belongs together.
func TestCallPlainTogether(t *testing.T) {
	eachCall(20000, func(m *callMaker, _ string) {
		text, i, j := m.subject(20), m.pick(30)-12, m.pick(30)-12
		call := func(name string, args ...impl.Lit) []impl.Lit {
			values, message, code := impl.CallPlain(name, args)
			if code != 0 {
				t.Fatalf("%s(%s): %q, code %d", name, litsText(args), message, code)
			}
			return values
		}
		part := call("string.sub", textLit(text), intLit(i), intLit(j))[0]
		bytes := call("string.byte", textLit(text), intLit(i), intLit(j))
		if again := call("string.char", bytes...)[0]; again != part {
			t.Errorf("the bytes %d to %d of %q are %s, and those of %s", i, j, text, litsText(bytes), litText(part))
		}
		if length := call("string.len", part)[0]; length != intLit(len(bytes)) {
			t.Errorf("%s has the length %s", litText(part), litText(length))
		}
		if twice := call("string.reverse", call("string.reverse", textLit(text))[0])[0]; twice != textLit(text) {
			t.Errorf("%q turned round twice is %s", text, litText(twice))
		}
		n := litOf(impl.Number{Int: m.integer()})
		if m.pick(2) == 0 {
			n = floatLit(m.float())
		}
		shown := call("rawtostring", n)[0]
		if read := call("tonumber", shown)[0]; read != n && shown.Text != "nan" && !strings.HasSuffix(shown.Text, "inf") {
			t.Errorf("%s reads as %s", shown.Text, litText(read))
		}
		if written := call("string.format", textLit("%s"), n)[0]; written != shown {
			t.Errorf("%s is written as %s", shown.Text, litText(written))
		}
		whole := intLit(m.integer())
		if read := call("tonumber", call("string.format", textLit("%x"), whole)[0], intLit(16))[0]; read != whole {
			t.Errorf("%s in hexadecimal reads as %s", litText(whole), litText(read))
		}
		if read := call("tonumber", call("string.format", textLit("%+025d"), whole)[0])[0]; whole.Int < 0 && read != whole {
			t.Errorf("%s with zeros reads as %s", litText(whole), litText(read))
		}
		if n.Kind == impl.LitInt {
			if quoted := call("string.format", textLit("%q"), n)[0]; quoted != shown {
				t.Errorf("%s is quoted as %s", shown.Text, litText(quoted))
			}
		}
		quoted := call("string.format", textLit("%q"), textLit(text))[0].Text
		if tokens, fault := impl.Lex(quoted); fault.Code != 0 || len(tokens) != 2 || tokens[0].Text != text {
			t.Errorf("%q is quoted as %s", text, quoted)
		}
	})
}
