package tests

import (
	"math"
	"slices"
	"strconv"
	"strings"
	"testing"

	"loop.example/g00002/impl"
)

// Calls of primitives as rows of text: the arguments, =>, and the values that are given; or # and the number of an argument
// with what is wrong with it; or ! and a message. A value is nil, true, false, a number (min and max are the ends of the
// integers), or a quoted text, perhaps with * and how many times it stands there; ^ and a number behind it: so many values.

// rowReader reads words from the left.
type rowReader struct {
	t    *testing.T
	rest string
}

func (r *rowReader) skipBlanks() { r.rest = strings.TrimLeft(r.rest, " \t") }

// number reads a number behind a sign, 1 if the sign isn't there.
func (r *rowReader) number(sign string) int {
	behind, found := strings.CutPrefix(r.rest, sign)
	if !found {
		return 1
	}
	digits := len(behind) - len(strings.TrimLeft(behind, theDigits))
	n, err := strconv.Atoi(behind[:digits])
	if err != nil {
		r.t.Fatalf("no number at %q", short(r.rest))
	}
	r.rest = behind[digits:]
	return n
}

func (r *rowReader) value() impl.Lit {
	if strings.HasPrefix(r.rest, `"`) {
		quoted, err := strconv.QuotedPrefix(r.rest)
		if err != nil {
			r.t.Fatalf("no text at %s", short(r.rest))
		}
		text, _ := strconv.Unquote(quoted)
		r.rest = r.rest[len(quoted):]
		return textLit(times(text, r.number("*")))
	}
	length := strings.IndexAny(r.rest+" ", " \t^")
	word := r.rest[:length]
	r.rest = r.rest[length:]
	switch word {
	case "nil":
		return impl.Lit{}
	case "true", "false":
		return boolLit(word == "true")
	case "min":
		return intLit(math.MinInt)
	case "max":
		return intLit(math.MaxInt)
	}
	if i, err := strconv.ParseInt(word, 10, 64); err == nil {
		return intLit(int(i))
	}
	f, err := strconv.ParseFloat(word, 64)
	if err != nil {
		r.t.Fatalf("no value: %q", word)
	}
	return floatLit(f)
}

// values reads values up to a mark or the end.
func (r *rowReader) values(mark string) []impl.Lit {
	var list []impl.Lit
	for r.skipBlanks(); r.rest != "" && (mark == "" || !strings.HasPrefix(r.rest, mark)); r.skipBlanks() {
		v := r.value()
		list = append(list, slices.Repeat([]impl.Lit{v}, r.number("^"))...)
	}
	return list
}

func litsOf(t *testing.T, text string) []impl.Lit {
	t.Helper()
	r := &rowReader{t, text}
	return r.values("")
}

// answer reads what is behind the arrow.
func (r *rowReader) answer(name string) plainAnswer {
	r.rest = strings.TrimPrefix(r.rest, "=>")
	r.skipBlanks()
	if message, found := strings.CutPrefix(r.rest, "! "); found {
		return plainAnswer{message: message, code: impl.PlainError}
	}
	if said, found := strings.CutPrefix(r.rest, "#"); found {
		number, why, _ := strings.Cut(said, " ")
		message := "bad argument #" + number + " to '" + name + "' (" + why + ")"
		return plainAnswer{message: message, code: impl.PlainError}
	}
	return plainAnswer{values: r.values("")}
}

// checkRows holds each row of calls of one primitive against the program and the model.
func checkRows(t *testing.T, name, rows string) {
	t.Helper()
	for _, row := range strings.Split(strings.TrimSpace(rows), "\n") {
		r := &rowReader{t, strings.TrimSpace(row)}
		args := r.values("=>")
		if !strings.HasPrefix(r.rest, "=>") {
			t.Fatalf("no arrow in %q", row)
		}
		checkPlain(t, name, args, r.answer(name))
	}
}

// The rows themselves: what they say is read as it is meant.
func TestRowsAreRead(t *testing.T) {
	got := litsOf(t, `nil true false 7 -7 min max 1.0 -0.0 nan inf -inf 0x1p-1074 "a\x00\n" "ab"*3 ""*5 nil^2 1^0 "x"*2^2`)
	want := []impl.Lit{
		{}, {Kind: 1, Int: 1}, {Kind: 1}, {Kind: 2, Int: 7}, {Kind: 2, Int: -7}, {Kind: 2, Int: math.MinInt},
		{Kind: 2, Int: math.MaxInt}, {Kind: 3, Bits: 0x3FF0000000000000}, {Kind: 3, Bits: 1 << 63},
		{Kind: 3, Bits: 0x7FF8000000000000}, {Kind: 3, Bits: 0x7FF0000000000000}, {Kind: 3, Bits: 0xFFF0000000000000},
		{Kind: 3, Bits: 1}, {Kind: 4, Text: "a\x00\n"}, {Kind: 4, Text: "ababab"}, {Kind: 4}, {}, {},
		{Kind: 4, Text: "xx"}, {Kind: 4, Text: "xx"},
	}
	if !slices.Equal(got, want) {
		t.Errorf("%s", litsText(got))
	}
	r := &rowReader{t, "=> #2 why"}
	if a := r.answer("f"); a.message != "bad argument #2 to 'f' (why)" || a.code != 3 || a.values != nil {
		t.Errorf("%v", a)
	}
	r = &rowReader{t, "=> ! such a message"}
	if a := r.answer("f"); a.message != "such a message" || a.code != 3 || a.values != nil {
		t.Errorf("%v", a)
	}
}
