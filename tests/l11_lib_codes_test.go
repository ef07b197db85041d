package tests

import (
	"math"
	"slices"
	"strings"
	"testing"

	"loop.example/g00002/impl"
)

// noLits are values that aren't plain.
func noLits() []impl.Lit {
	list := []impl.Lit{
		{Int: 1}, {Int: -1}, {Bits: 1}, {Text: "x"}, {Int: 1, Bits: 1, Text: "x"},
		{Kind: impl.LitBool, Int: 2}, {Kind: impl.LitBool, Int: -1}, {Kind: impl.LitBool, Int: math.MinInt}, {Kind: impl.LitBool, Int: 256},
		{Kind: impl.LitBool, Bits: 1}, {Kind: impl.LitBool, Int: 1, Bits: 1 << 63}, {Kind: impl.LitBool, Text: "x"},
		{Kind: impl.LitInt, Bits: 1}, {Kind: impl.LitInt, Text: "x"}, {Kind: impl.LitInt, Int: 5, Bits: 5}, {Kind: impl.LitInt, Int: 5, Text: "5"},
		{Kind: impl.LitFloat, Int: 1}, {Kind: impl.LitFloat, Text: "x"}, {Kind: impl.LitFloat, Int: 1, Bits: 0x3FF0000000000000},
		{Kind: impl.LitText, Int: 1}, {Kind: impl.LitText, Bits: 1}, {Kind: impl.LitText, Int: 1, Text: "x"}, {Kind: impl.LitText, Bits: 1, Text: "x"},
		{Kind: impl.LitText, Text: times("x", 65537)}, {Kind: impl.LitText, Text: times("x", 70000)},
	}
	for _, word := range []uint64{
		0x7FF8000000000001, 0xFFF8000000000000, 0x7FF0000000000001, 0x7FFFFFFFFFFFFFFF, 0xFFFFFFFFFFFFFFFF, 0x7FF4000000000000, 0xFFF0000000000001,
	} {
		list = append(list, impl.Lit{Kind: impl.LitFloat, Bits: word})
	}
	for _, kind := range []int{-1, -2, 5, 6, 255, 256, 260, math.MinInt, math.MaxInt, 1 << 32} {
		list = append(list, impl.Lit{Kind: kind}, impl.Lit{Kind: kind, Int: 1}, impl.Lit{Kind: kind, Text: "x"})
	}
	return list
}

// lits are plain values of all kinds, at the ends of what they can be.
func lits() []impl.Lit {
	list := []impl.Lit{
		{}, boolLit(true), boolLit(false), textLit(""), textLit("x"), textLit("#"), textLit("12"), textLit("%d"), textLit(times("x", 65536)),
	}
	for _, i := range []int{0, 1, -1, 2, 10, 255, 256, math.MinInt, math.MaxInt} {
		list = append(list, intLit(i))
	}
	for _, f := range []float64{0, math.Copysign(0, -1), 1, 2.5, -1, 1e19, 5e-324, math.MaxFloat64, math.NaN(), math.Inf(1), math.Inf(-1)} {
		list = append(list, floatLit(f))
	}
	return list
}

// checkPlainCode looks that a code is told, and nothing beside it.
func checkPlainCode(t *testing.T, name string, args []impl.Lit, code int) {
	t.Helper()
	if got := programAnswer(name, args); !got.is(plainAnswer{code: code}) {
		t.Errorf("%s(%s) = %v, not code %d alone", short(name), litsText(args), got, code)
	}
	if got := modelAnswer(name, args); got.code != code {
		t.Errorf("the model: %s(%s) has code %d, not %d", short(name), litsText(args), got.code, code)
	}
}

func TestCallPlainOfNoPlainValue(t *testing.T) {
	for _, l := range noLits() {
		for _, name := range append(plainNames(), "", "what", "rawlen", "print") {
			checkPlainCode(t, name, []impl.Lit{l}, impl.PlainArg)
			checkPlainCode(t, name, []impl.Lit{textLit("x"), intLit(1), l}, impl.PlainArg)
			checkPlainCode(t, name, []impl.Lit{l, boolLit(true), l}, impl.PlainArg)
		}
		args := many(intLit(1), 1000)
		args[999] = l
		checkPlainCode(t, "type", args, impl.PlainArg)
	}
	for _, l := range lits() {
		if got := checkPlainByModel(t, "type", []impl.Lit{l}); got.code != 0 {
			t.Errorf("%s isn't taken: %v", litText(l), got)
		}
		if got := checkPlainByModel(t, "select", []impl.Lit{intLit(1), l}); !slices.Equal(got.values, []impl.Lit{l}) {
			t.Errorf("%s isn't handed on: %v", litText(l), got)
		}
	}
}

func TestCallPlainOfManyValues(t *testing.T) {
	for _, l := range []impl.Lit{{}, intLit(1), textLit("x")} {
		for _, count := range []int{1001, 1002, 5000} {
			for _, name := range append(plainNames(), "", "what", "rawlen", "print") {
				checkPlainCode(t, name, many(l, count), impl.PlainArg)
			}
		}
		for _, name := range plainNames() {
			checkPlainByModel(t, name, many(l, 1000))
			checkPlainByModel(t, name, many(l, 999))
		}
		checkPlainCode(t, "what", many(l, 1000), impl.PlainName)
	}
	checkRows(t, "select", `"#" 1^999 => 999`)
	checkRows(t, "string.char", `97^1000 => "a"*1000`)
}

func TestCallPlainOfOtherNames(t *testing.T) {
	names := []string{
		"", " ", "what", "Type", "TYPE", "type ", " type", "type\x00", "\x00", "typ", "typee", "string", "string.", ".len", "len", "sub", "rep",
		"string.Len", "string.len.", "string..len", "string:len", "String.len", "string.type", "math", "math.", "math.len", "math.maxinteger",
		"_G", "_G.type", "table", "coroutine", "nil", "'type'", "bad argument", times("x", 70000), "string.format ", "floor", "math.floo",
		// what the prelude sets
		"tostring", "print", "ipairs", "pairs", "assert", "xpcall", "coroutine.wrap", "math.ceil", "math.max", "math.min", "string.gmatch",
		"string.gsub", "table.pack", "table.concat", "table.insert", "table.remove", "table.move", "table.sort",
	}
	for _, name := range append(names, otherPrimitives...) {
		checkPlainCode(t, name, nil, impl.PlainName)
		checkPlainCode(t, name, []impl.Lit{}, impl.PlainName)
		for _, l := range lits() {
			checkPlainCode(t, name, []impl.Lit{l}, impl.PlainName)
			checkPlainCode(t, name, []impl.Lit{textLit("x"), l, intLit(1)}, impl.PlainName)
		}
	}
	for _, name := range plainNames() {
		if got := programAnswer(name, nil); got.code == impl.PlainName {
			t.Errorf("%s isn't known", name)
		}
	}
}

// plainRows has for each primitive arguments that are right, as many as it takes.
func plainRows(t *testing.T) map[string][]impl.Lit {
	rows := map[string][]impl.Lit{}
	for name, row := range map[string]string{
		"type": "1", "rawtostring": "1", "tonumber": `"11" 2`, "rawequal": "1 1.0", "select": `2 "a" "b" "c"`,
		"string.len": `"abc"`, "string.sub": `"hello" 2 -2`, "string.upper": `"aB"`, "string.lower": `"aB"`, "string.reverse": `"abc"`,
		"string.rep": `"ab" 3 "-"`, "string.byte": `"hello" 2 3`, "string.char": "72 105", "string.find": `"hello" "(l)" 2`,
		"string.match": `"hello" "l" 4`, "string.rawgsub": `"hello" "l" "L" 1`, "string.format": `"%d %s %q %f %x %X %c" 1 2 3 4 5 6 7`,
		"math.floor": "2.5", "math.abs": "-2.5", "math.tointeger": "2.0", "math.type": "2.0", "math.ult": "1 -1",
	} {
		rows[name] = litsOf(t, row)
	}
	return rows
}

// Each primitive with no argument, with ever more of them, and with more than it takes: what is behind those that it takes
// changes nothing.
func TestCallPlainCountsOfArguments(t *testing.T) {
	for name, row := range plainRows(t) {
		for count := range row {
			checkPlainByModel(t, name, row[:count])
		}
		whole := checkPlainByModel(t, name, row)
		if whole.code != 0 {
			t.Errorf("%s(%s) = %v", name, litsText(row), whole)
		}
		if name == "select" || name == "string.char" {
			continue
		}
		for _, more := range [][]impl.Lit{{{}}, lits(), {boolLit(true), {}}, many(textLit("x"), 990)} {
			args := slices.Concat(row, more)
			if got := programAnswer(name, args); !got.is(whole) {
				t.Errorf("%s(%s) = %v, not %v", name, litsText(args), got, whole)
			}
		}
	}
}

// Each kind of value at each place, and at each two of them: of two that are wrong the first is told.
func TestCallPlainKindsOfArguments(t *testing.T) {
	told := map[string]int{}
	for name, row := range plainRows(t) {
		for i := range row {
			for _, first := range lits() {
				args := slices.Clone(row)
				args[i] = first
				told[checkPlainByModel(t, name, args).message]++
				told[checkPlainByModel(t, name, args[:i+1]).message]++
				for j := i + 1; j < len(row); j++ {
					for _, second := range lits() {
						args[j] = second
						checkPlainByModel(t, name, args)
						args[j] = row[j]
					}
				}
			}
		}
	}
	for name, form := range plainForms {
		for i, letter := range form {
			number := string(rune('1' + i))
			for _, why := range map[rune][]string{
				's': {"string expected, got nil", "string expected, got boolean"},
				'n': {"number expected, got nil", "number expected, got boolean", "number expected, got string"},
				'i': {"number expected, got nil", "number expected, got boolean", "number expected, got string", "number has no integer representation"},
				'S': {"string expected, got boolean"},
				'I': {"number expected, got boolean", "number expected, got string", "number has no integer representation"},
			}[letter] {
				if message := "bad argument #" + number + " to '" + name + "' (" + why + ")"; told[message] == 0 {
					t.Errorf("nothing has told %s", message)
				}
			}
		}
	}
}

// Chapter 1: the arguments stay as they were, what lies behind the end of their list too, and a message tells of no other
// call.
func TestCallPlainKeepsItsArguments(t *testing.T) {
	for name, row := range plainRows(t) {
		for _, args := range [][]impl.Lit{row, {}, {{}}, {boolLit(true)}} {
			room := slices.Concat(args, many(textLit("room"), 10))
			want := slices.Clone(room)
			first := programAnswer(name, room[:len(args)])
			if !slices.Equal(room, want) {
				t.Errorf("%s has written into its arguments: %s", name, litsText(room))
			}
			if second := programAnswer(name, room[:len(args)]); !second.is(first) {
				t.Errorf("%s(%s) = %v, then %v", name, litsText(args), first, second)
			}
		}
	}
}

// Chapter 1: an answer shares memory with no argument and no other answer.
func TestCallPlainAnswersOwnTheirMemory(t *testing.T) {
	for name, row := range plainRows(t) {
		for i := range row {
			row[i].Text = strings.Clone(row[i].Text)
		}
		first, second := programAnswer(name, row), programAnswer(name, row)
		want := slices.Clone(second.values)
		for _, v := range first.values {
			for _, arg := range row {
				apart(t, name, v.Text, arg.Text)
			}
		}
		for _, values := range [][]impl.Lit{first.values, first.values[:cap(first.values)]} {
			for i := range values {
				values[i] = intLit(-77)
			}
		}
		if !slices.Equal(second.values, want) || slices.Contains(row, intLit(-77)) {
			t.Errorf("%s: the list of an answer shares memory", name)
		}
		if third := programAnswer(name, row); !slices.Equal(third.values, want) {
			t.Errorf("%s(%s) = %v when asked again", name, litsText(row), third)
		}
	}
	for _, c := range []struct {
		name string
		args []impl.Lit
	}{
		{"rawtostring", litsOf(t, `"hello world"`)},
		{"select", litsOf(t, `1 "hello world"`)},
		{"select", litsOf(t, `-2 1 "hello world" "others"`)},
		{"string.sub", litsOf(t, `"hello world"`)},
		{"string.rep", litsOf(t, `"hello world" 1`)},
		{"string.upper", litsOf(t, `"HELLO"`)},
		{"string.lower", litsOf(t, `"hello"`)},
		{"string.match", litsOf(t, `"hello world" ".*"`)},
		{"string.match", litsOf(t, `"hello world" "(.*) (.*)"`)},
		{"string.find", litsOf(t, `"hello world" "(.*) (.*)"`)},
		{"string.rawgsub", litsOf(t, `"hello world" "x" "y"`)},
		{"string.rawgsub", litsOf(t, `"h" "h" "hello world"`)},
		{"string.format", litsOf(t, `"hello world"`)},
		{"string.format", litsOf(t, `"%s" "hello world"`)},
		{"string.format", litsOf(t, `"%.3s" "hello world"`)},
	} {
		for i := range c.args {
			c.args[i].Text = strings.Clone(c.args[i].Text)
		}
		got := programAnswer(c.name, c.args)
		if got.code != 0 {
			t.Errorf("%s(%s) = %v", c.name, litsText(c.args), got)
		}
		for _, v := range got.values {
			for _, arg := range c.args {
				apart(t, c.name, v.Text, arg.Text)
			}
		}
	}
}
