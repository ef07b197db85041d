package tests

import (
	"regexp"
	"slices"
	"strconv"
	"strings"
	"testing"

	"loop.example/g00002/impl"
)

// The model says chapter 3 once more by patterns that are tried at each place, for the program to be held against.

const (
	theWords = "and break do else elseif end false for function goto if in local nil not or repeat return then true until while"
	theSigns = "+ - * / % ^ # & ~ | << >> // == ~= <= >= < > = ( ) { } [ ] :: ; : , . .. ..."
)

var (
	patternBlank   = regexp.MustCompile(`^[\t\n\r ]`)
	patternComment = regexp.MustCompile(`^--[^\n]*`)
	patternOpening = regexp.MustCompile(`^\[(=*)\[`)
	patternName    = regexp.MustCompile(`^[A-Za-z_][A-Za-z_0-9]*`)
	patternHex     = regexp.MustCompile(`^0[xX][0-9A-Za-z_.]*`)
	patternNumeral = regexp.MustCompile(`^\.?[0-9](?:[eE][+-]|[0-9A-Za-z_.])*`)
	patternSign    = regexp.MustCompile(`^(?:\.\.\.|<<|>>|//|==|~=|<=|>=|::|\.\.|[-+*/%^#&~|<>=(){}\[\];:,.])`)
	patternPlain   = regexp.MustCompile(`^[^\\\n]`)
	patternEscape  = regexp.MustCompile(`^\\(?:[abtnvfr\\"'\n]|x[0-9a-fA-F][0-9a-fA-F]|[0-9][0-9]?[0-9]?)`)
)

// spread makes each byte a rune of its own, so that patterns go by bytes.
func spread(text string) string {
	runes := make([]rune, 0, len(text))
	for _, b := range []byte(text) {
		runes = append(runes, rune(b))
	}
	return string(runes)
}

// gathered undoes spread.
func gathered(text string) string {
	bytes := make([]byte, 0, len(text))
	for _, r := range text {
		bytes = append(bytes, byte(r))
	}
	return string(bytes)
}

// modelToken reads what stands at the beginning of a text: a token (of kind -1 for what is passed over) and its
// bytes, or a fault's code and place.
func modelToken(rest string) (token impl.Token, length, code, at int) {
	wide := spread(rest)
	found := func(p *regexp.Regexp) string { return gathered(p.FindString(wide)) }
	switch {
	case rest == "":
		return impl.Token{Kind: impl.TokEnd}, 0, 0, 0
	case found(patternBlank) != "":
		return impl.Token{Kind: -1}, 1, 0, 0
	case strings.HasPrefix(rest, "--") && patternOpening.MatchString(wide[2:]):
		_, length, code = modelLong(rest[2:])
		return impl.Token{Kind: -1}, 2 + length, code, 2
	case strings.HasPrefix(rest, "--"):
		return impl.Token{Kind: -1}, len(found(patternComment)), 0, 0
	case found(patternName) != "":
		name := found(patternName)
		kind := impl.TokName
		if slices.Contains(strings.Fields(theWords), name) {
			kind = impl.TokWord
		}
		return impl.Token{Kind: kind, Text: name}, len(name), 0, 0
	case found(patternHex) != "":
		return modelNumeral(found(patternHex))
	case found(patternNumeral) != "":
		return modelNumeral(found(patternNumeral))
	case rest[0] == '"' || rest[0] == '\'':
		return modelQuoted(rest)
	case found(patternOpening) != "":
		text, length, code := modelLong(rest)
		return impl.Token{Kind: impl.TokString, Text: text}, length, code, 0
	case found(patternSign) != "":
		sign := found(patternSign)
		return impl.Token{Kind: impl.TokSign, Text: sign}, len(sign), 0, 0
	}
	return impl.Token{}, 0, impl.FaultByte, 0
}

func modelNumeral(text string) (impl.Token, int, int, int) {
	n, ok := modelParse(text)
	switch {
	case !ok:
		return impl.Token{}, 0, impl.FaultNumber, 0
	case n.IsFloat:
		return impl.Token{Kind: impl.TokFloat, Bits: n.Bits}, len(text), 0, 0
	}
	return impl.Token{Kind: impl.TokInt, Int: n.Int}, len(text), 0, 0
}

func modelLong(rest string) (text string, length, code int) {
	opening := patternOpening.FindString(rest)
	closing := strings.ReplaceAll(opening, "[", "]")
	for end := len(opening); end+len(closing) <= len(rest); end++ {
		if rest[end:end+len(closing)] != closing {
			continue
		}
		text = rest[len(opening):end]
		if text != "" && text[0] == '\n' {
			text = text[1:]
		}
		return text, end + len(closing), 0
	}
	return "", 0, impl.FaultLong
}

func modelQuoted(rest string) (impl.Token, int, int, int) {
	var text []byte
	for at := 1; at < len(rest); {
		wide := spread(rest[at:])
		escape, plain := gathered(patternEscape.FindString(wide)), gathered(patternPlain.FindString(wide))
		switch {
		case rest[at] == rest[0]:
			return impl.Token{Kind: impl.TokString, Text: string(text)}, at + 1, 0, 0
		case escape != "":
			value, ok := modelEscape(escape)
			if !ok {
				return impl.Token{}, 0, impl.FaultEscape, at
			}
			text = append(text, value)
			at += len(escape)
		case plain != "":
			text = append(text, plain...)
			at++
		case rest[at] == '\\':
			return impl.Token{}, 0, impl.FaultEscape, at
		default:
			return impl.Token{}, 0, impl.FaultString, 0
		}
	}
	return impl.Token{}, 0, impl.FaultString, 0
}

func modelEscape(escape string) (byte, bool) {
	switch rest := escape[1:]; rest[0] {
	case 'a':
		return 7, true
	case 'b':
		return 8, true
	case 't':
		return 9, true
	case 'n', '\n':
		return 10, true
	case 'v':
		return 11, true
	case 'f':
		return 12, true
	case 'r':
		return 13, true
	case '\\', '"', '\'':
		return rest[0], true
	case 'x':
		value, err := strconv.ParseUint(rest[1:], 16, 8)
		return byte(value), err == nil
	default:
		value, err := strconv.ParseUint(rest, 10, 8)
		return byte(value), err == nil
	}
}

func modelLex(source string) ([]impl.Token, impl.Fault) {
	if len(source) > 32768 {
		return nil, impl.Fault{Code: impl.FaultLarge, Line: 1}
	}
	lineOf := func(at int) int { return 1 + strings.Count(source[:at], "\n") }
	var tokens []impl.Token
	for at := 0; ; {
		token, length, code, where := modelToken(source[at:])
		if code != 0 {
			return nil, impl.Fault{Code: code, Line: lineOf(at + where), At: at + where}
		}
		if token.Kind >= 0 {
			token.Line, token.At = lineOf(at), at
			tokens = append(tokens, token)
		}
		if token.Kind == impl.TokEnd {
			return tokens, impl.Fault{}
		}
		at += length
	}
}

// fragments are what texts are made of at random: tokens, halves of tokens, and what is no token.
func fragments() []string {
	row := append(strings.Fields(theWords), strings.Fields(theSigns)...)
	row = append(row, "a", "e", "E", "x", "_", "Z9", "ending", "0", "7", "42", "1.5", ".5", "5.", "1e5", "1e+5", "1E-5", "1e", "0x", "0X1F", "0x1e", "0xFFFFFFFFFFFFFFFF",
		"9223372036854775807", "9223372036854775808", "1e308", "1e309", "3x", "00")
	row = append(row, `"`, `'`, `""`, `'a'`, `"a b"`, `\`, `\\`, `\"`, `\'`, `\n`, `\0`, `\65`, `\255`, `\256`, `\x4`, `\x41`, `\xFf`, `\q`, "\\\n")
	row = append(row, "[[", "]]", "[=[", "]=]", "[==[", "]==]", "[=", "=]", "--", "--[[", "--[=[", "-- c\n")
	return append(row, " ", " ", " ", "\n", "\n", "\t", "\r", "\x00", "\x0b", "@", "!", "$", "?", "`", "\x7f", "\x80", "\xff", "\u00e9", "\u20ac")
}

// randomTexts makes texts of up to so many fragments each.
func randomTexts(count, most int) []string {
	pieces := fragments()
	texts := make([]string, count)
	row := words(count * (most + 1))
	for i := range texts {
		mine := row[i*(most+1) : (i+1)*(most+1)]
		var text strings.Builder
		for _, w := range mine[:1+mine[most]>>20%uint64(most)] {
			text.WriteString(pieces[w>>20%uint64(len(pieces))])
		}
		texts[i] = text.String()
	}
	return texts
}

// checkAgainstModel holds Lex against the model.
func checkAgainstModel(t *testing.T, source string) {
	t.Helper()
	tokens, fault := impl.Lex(source)
	wantTokens, wantFault := modelLex(source)
	if fault != wantFault || !slices.Equal(tokens, wantTokens) {
		t.Errorf("Lex(%q) = %+v, %+v, want %+v, %+v", source, tokens, fault, wantTokens, wantFault)
	}
}

func TestLexOfRandomTexts(t *testing.T) {
	t.Parallel()
	whole := 0
	for _, most := range []int{1, 2, 3, 5, 12} {
		for _, source := range randomTexts(4000, most) {
			checkAgainstModel(t, source)
			if _, fault := impl.Lex(source); fault.Code == 0 {
				whole++
			}
		}
	}
	if whole < 2000 {
		t.Errorf("only %d of the texts have no fault", whole)
	}
}

func TestLexOfRandomBytes(t *testing.T) {
	t.Parallel()
	row := words(20000)
	for i := 0; i+4 <= len(row); i += 4 {
		var source []byte
		for _, w := range row[i : i+4] {
			source = append(source, byte(w>>8), byte(w>>16), byte(w>>24))
		}
		checkAgainstModel(t, string(source))
		checkAgainstModel(t, "'"+string(source)+"'")
		checkAgainstModel(t, "--"+string(source)+"\nx")
	}
}

func TestLexOfAllPairs(t *testing.T) {
	t.Parallel()
	for _, a := range fragments() {
		for _, b := range fragments() {
			checkAgainstModel(t, a+b)
			checkAgainstModel(t, a+" "+b)
		}
	}
}

func TestLexOfShortTexts(t *testing.T) {
	t.Parallel()
	for a := range 256 {
		checkAgainstModel(t, string([]byte{byte(a)}))
		for b := range 256 {
			checkAgainstModel(t, string([]byte{byte(a), byte(b)}))
		}
	}
	const telling = "aex019.+-=[]<~:/\\'\"\n @"
	for _, a := range []byte(telling) {
		for _, b := range []byte(telling) {
			for _, c := range []byte(telling) {
				checkAgainstModel(t, string([]byte{a, b, c}))
				checkAgainstModel(t, string([]byte{'1', a, b, c}))
				checkAgainstModel(t, string([]byte{'\'', a, b, c, '\''}))
			}
		}
	}
}
