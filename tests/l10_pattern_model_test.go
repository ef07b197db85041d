package tests

import (
	"regexp"
	"slices"
	"strconv"
	"strings"
	"testing"

	"loop.example/g00002/impl"
)

// The model says chapter 11 once more: the grammar by the library's own patterns, matching by a list of all ways that are
// still to be tried, each with captures of its own.

const (
	theSmall  = "abcdefghijklmnopqrstuvwxyz"
	theLarge  = "ABCDEFGHIJKLMNOPQRSTUVWXYZ"
	theDigits = "0123456789"
	theMarks  = "!\"#$%&'()*+,-./:;<=>?@[\\]^_`{|}~"
	theBlanks = "\t\n\v\f\r "
	theHex    = theDigits + "abcdefABCDEF"
)

// The forms of chapter 11. A set that begins with ^ is turned over, so ^ can't be its first piece; only that may be ].
const (
	formPieces = `(?:%.|[^%\]]-[^%\]]|[^%\]])*`
	formSet    = `\[(?:\^(?:%.|[^%]-[^%\]]|[^%])|%.|[^%^]-[^%\]]|[^%^])` + formPieces + `\]`
	formSingle = `\.|%.|` + formSet + `|[^%\[()]`
)

var (
	patternItem  = regexp.MustCompile(`(?s)^(?:(\(\)|\(|\))|%([0-9])|%b(..)|%f(` + formSet + `)|(` + formSingle + `)([-*+?]?))`)
	patternPiece = regexp.MustCompile(`(?s)%.|[^%]-[^%]|[^%]`)
)

// patternPart is an item of a pattern: one of the marks ( ) () %1 b f $ for what it is, "" for a single; its sign, or the two
// bytes of %b; the bytes of its single or set; and the number of its capture, counted from 0.
type patternPart struct {
	mark, more string
	bytes      *[256]bool
	number     int
}

// patternModel is a pattern that is right.
type patternModel struct {
	parts    []patternPart
	fixed    bool
	captures int
}

// modelLetter tells whether a byte is of the class of a letter, and whether there is such a class.
func modelLetter(letter, b byte) (is, known bool) {
	within := func(texts string) bool { return strings.IndexByte(texts, b) >= 0 }
	switch letter {
	case 'a':
		return within(theSmall + theLarge), true
	case 'd':
		return within(theDigits), true
	case 'l':
		return within(theSmall), true
	case 's':
		return within(theBlanks), true
	case 'u':
		return within(theLarge), true
	case 'w':
		return within(theSmall + theLarge + theDigits), true
	case 'x':
		return within(theHex), true
	case 'p':
		return within(theMarks), true
	case 'c':
		return b <= 31 || b == 127, true
	}
	return false, false
}

// modelEscaped tells whether a byte is of % and another, and whether that is right.
func modelEscaped(escaped, b byte) (is, right bool) {
	small := strings.IndexByte(theLarge, escaped)
	switch {
	case small >= 0:
		is, right = modelLetter(theSmall[small], b)
		return !is, right
	case strings.IndexByte(theSmall, escaped) >= 0:
		return modelLetter(escaped, b)
	}
	return b == escaped, strings.IndexByte(theDigits, escaped) < 0
}

// modelHas tells whether a byte is of a single or a piece of a set, and whether that is right.
func modelHas(piece string, b byte) (is, right bool) {
	switch {
	case piece[0] == '%':
		return modelEscaped(piece[1], b)
	case len(piece) == 3:
		return piece[0] <= b && b <= piece[2], true
	}
	return b == piece[0], true
}

// modelBytes are the bytes of a single or a set, and whether it is right.
func modelBytes(text string) (*[256]bool, bool) {
	turned, right := text == ".", true
	pieces := []string{spread(text)}
	if text == "." {
		pieces = nil
	} else if text[0] == '[' {
		var inside string
		inside, turned = strings.CutPrefix(text[1:len(text)-1], "^")
		pieces = patternPiece.FindAllString(spread(inside), -1)
	}
	var bytes [256]bool
	for b := range bytes {
		bytes[b] = turned
		for _, piece := range pieces {
			is, ok := modelHas(gathered(piece), byte(b))
			right = right && ok
			if is {
				bytes[b] = !turned
			}
		}
	}
	return &bytes, right
}

// modelPattern reads a pattern, and tells whether it is right.
func modelPattern(pattern string) (patternModel, bool) {
	var m patternModel
	var open []int
	if len(pattern) > 200 {
		return m, false
	}
	rest, fixed := strings.CutPrefix(pattern, "^")
	m.fixed = fixed
	closed := map[int]bool{}
	for rest != "" {
		if rest == "$" {
			m.parts = append(m.parts, patternPart{mark: "$"})
			break
		}
		part, length := modelPart(rest)
		if length == 0 {
			return m, false
		}
		rest = rest[length:]
		switch part.mark {
		case "(":
			open = append(open, m.captures)
		case ")":
			if len(open) == 0 {
				return m, false
			}
			part.number = open[len(open)-1]
			open = open[:len(open)-1]
			closed[part.number] = true
		case "()":
			closed[m.captures] = true
		case "%1":
			if !closed[part.number] {
				return m, false
			}
		}
		if part.mark == "(" || part.mark == "()" {
			part.number = m.captures
			m.captures++
		}
		m.parts = append(m.parts, part)
	}
	return m, len(open) == 0 && m.captures <= 16
}

// modelPart reads the item with which a pattern begins; no length if there is none that is right.
func modelPart(rest string) (patternPart, int) {
	found := patternItem.FindStringSubmatch(spread(rest))
	if found == nil {
		return patternPart{}, 0
	}
	for i := range found {
		found[i] = gathered(found[i])
	}
	part := patternPart{mark: found[1], more: found[3] + found[6]}
	switch {
	case found[2] != "":
		part.mark, part.number = "%1", int(found[2][0])-'1'
	case found[3] != "":
		part.mark = "b"
	case found[4] != "":
		part.mark = "f"
	}
	if set := found[4] + found[5]; set != "" {
		var right bool
		if part.bytes, right = modelBytes(set); !right {
			return patternPart{}, 0
		}
	}
	return part, len(found[0])
}

// patternWay is a way that is still to be tried: the item to be looked at and the place; or, if it takes, a byte more to be
// taken by an item that has - behind it.
type patternWay struct {
	part, at int
	takes    bool
	noted    []impl.Capture
}

// patternRun matches a pattern in a subject. Once it has counted too many steps it stops.
type patternRun struct {
	patternModel
	subject string
	steps   int
	ways    []patternWay
}

func (r *patternRun) isSpent() bool { return r.steps > 50000 }

// stands tells whether a byte of an item stands at a place.
func (r *patternRun) stands(part patternPart, at int) bool {
	return at < len(r.subject) && part.bytes[r.subject[at]]
}

// byteOr0 is the byte at a place, or 0 outside of the subject.
func (r *patternRun) byteOr0(at int) byte {
	if at < 0 || at >= len(r.subject) {
		return 0
	}
	return r.subject[at]
}

// push adds a way that is tried ahead of all others.
func (r *patternRun) push(part, at int, noted []impl.Capture) {
	r.ways = append(r.ways, patternWay{part: part, at: at, noted: noted})
}

// matchAt tries all ways from a place on, in their order, until one leads to a match.
func (r *patternRun) matchAt(from int) (impl.Found, bool) {
	r.ways = r.ways[:0]
	r.push(0, from, make([]impl.Capture, r.captures))
	for len(r.ways) > 0 && !r.isSpent() {
		w := r.ways[len(r.ways)-1]
		r.ways = r.ways[:len(r.ways)-1]
		switch {
		case w.part == len(r.parts):
			return impl.Found{From: from, To: w.at, Caps: w.noted}, true
		case w.takes:
			r.takeMore(w)
		default:
			r.steps++
			r.look(w)
		}
	}
	return impl.Found{}, false
}

func (r *patternRun) takeMore(w patternWay) {
	if !r.stands(r.parts[w.part], w.at) {
		return
	}
	r.steps++
	r.ways = append(r.ways, patternWay{part: w.part, at: w.at + 1, takes: true, noted: w.noted})
	r.push(w.part+1, w.at+1, w.noted)
}

// look adds the ways on from an item at a place, those that come first at last.
func (r *patternRun) look(w patternWay) {
	part := r.parts[w.part]
	switch part.mark {
	case "":
		r.lookSingle(w, part)
	case "(", ")", "()":
		noted := slices.Clone(w.noted)
		switch part.mark {
		case "(":
			noted[part.number].From = w.at
		case ")":
			noted[part.number].To = w.at
		case "()":
			noted[part.number] = impl.Capture{Place: true, From: w.at, To: w.at}
		}
		r.push(w.part+1, w.at, noted)
	case "%1":
		held := w.noted[part.number]
		if text := r.subject[held.From:held.To]; !held.Place && strings.HasPrefix(r.subject[w.at:], text) {
			r.push(w.part+1, w.at+len(text), w.noted)
		}
	case "b":
		if behind := r.behindBalance(w.at, part.more[0], part.more[1]); behind >= 0 {
			r.push(w.part+1, behind, w.noted)
		}
	case "f":
		if !part.bytes[r.byteOr0(w.at-1)] && part.bytes[r.byteOr0(w.at)] {
			r.push(w.part+1, w.at, w.noted)
		}
	case "$":
		if w.at == len(r.subject) {
			r.push(w.part+1, w.at, w.noted)
		}
	}
}

func (r *patternRun) lookSingle(w patternWay, part patternPart) {
	stands := r.stands(part, w.at)
	switch part.more {
	case "-":
		r.ways = append(r.ways, patternWay{part: w.part, at: w.at, takes: true, noted: w.noted})
		r.push(w.part+1, w.at, w.noted)
	case "*", "+":
		for n := 0; n == 0 || r.stands(part, w.at+n-1); n++ {
			if n > 0 || part.more == "*" {
				r.push(w.part+1, w.at+n, w.noted)
			}
			if n > 0 {
				r.steps++
			}
		}
	default:
		if part.more == "?" {
			r.push(w.part+1, w.at, w.noted)
		}
		if stands {
			r.push(w.part+1, w.at+1, w.noted)
		}
	}
}

// behindBalance is the place behind a balance that begins at a place; -1 if none does.
func (r *patternRun) behindBalance(at int, x, y byte) int {
	if !strings.HasPrefix(r.subject[at:], string([]byte{x})) {
		return -1
	}
	count := 1
	for i, b := range []byte(r.subject[at+1:]) {
		r.steps++
		if b == y {
			count--
		} else if b == x {
			count++
		}
		if count == 0 {
			return at + 1 + i + 1
		}
	}
	return -1
}

// findFrom is the first match from a place on.
func (r *patternRun) findFrom(init int) (impl.Found, bool) {
	for from := init; from <= len(r.subject) && !r.isSpent(); from++ {
		if found, is := r.matchAt(from); is {
			return found, true
		}
		if r.fixed {
			break
		}
	}
	return impl.Found{}, false
}

// findAll are the matches from the left, so many at most.
func (r *patternRun) findAll(most int) []impl.Found {
	var list []impl.Found
	from := 0
	for len(list) < most && from <= len(r.subject) {
		found, is := r.findFrom(from)
		if !is {
			break
		}
		list = append(list, found)
		from = max(found.To, found.From+1)
	}
	return list
}

// modelBegin reads the pattern of a call, or tells its code.
func modelBegin(subject, pattern string) (*patternRun, int) {
	m, right := modelPattern(pattern)
	switch {
	case len(subject) > 65536:
		return nil, impl.PatternLarge
	case !right:
		return nil, impl.PatternBad
	}
	return &patternRun{patternModel: m, subject: subject}, 0
}

func modelFind(subject, pattern string, init int) (impl.Found, bool, int) {
	r, code := modelBegin(subject, pattern)
	if code == 0 && (init < 0 || init > len(subject)) {
		code = impl.PatternInit
	}
	if code != 0 {
		return impl.Found{}, false, code
	}
	found, is := r.findFrom(init)
	if r.isSpent() {
		return impl.Found{}, false, impl.PatternSteps
	}
	return found, is, 0
}

func modelFindAll(subject, pattern string) ([]impl.Found, int) {
	r, code := modelBegin(subject, pattern)
	if code != 0 {
		return nil, code
	}
	list := r.findAll(10000)
	if r.isSpent() {
		return nil, impl.PatternSteps
	}
	return list, 0
}

var patternNamed = regexp.MustCompile(`(?s)%.?`)

// modelFilled is a replacement with all that it names put in, and whether it is right.
func modelFilled(subject, repl string, found impl.Found) (string, bool) {
	texts := map[string]string{"%%": "%", "%0": subject[found.From:found.To]}
	if len(found.Caps) == 0 {
		texts["%1"] = texts["%0"]
	}
	for i, c := range found.Caps {
		if c.Place {
			texts["%"+strconv.Itoa(i+1)] = strconv.Itoa(c.From + 1)
		} else {
			texts["%"+strconv.Itoa(i+1)] = subject[c.From:c.To]
		}
	}
	right := true
	put := patternNamed.ReplaceAllStringFunc(spread(repl), func(named string) string {
		text, ok := texts[named]
		right = right && ok
		return spread(text)
	})
	return gathered(put), right
}

func modelGsub(subject, pattern, repl string, most int) (string, int, int) {
	r, code := modelBegin(subject, pattern)
	if code != 0 {
		return "", 0, code
	}
	if _, right := modelFilled("", repl, impl.Found{Caps: make([]impl.Capture, r.captures)}); !right {
		return "", 0, impl.PatternRepl
	}
	list := r.findAll(most)
	var text strings.Builder
	done := 0
	for _, found := range list {
		put, _ := modelFilled(subject, repl, found)
		text.WriteString(subject[done:found.From] + put)
		done = found.To
	}
	text.WriteString(subject[done:])
	switch {
	case r.isSpent():
		return "", 0, impl.PatternSteps
	case text.Len() > 65536:
		return "", 0, impl.PatternLong
	}
	return text.String(), len(list), 0
}

// short cuts a text for a message.
func short(text string) string {
	if len(text) > 100 {
		return strconv.Quote(text[:100]) + " .. (" + strconv.Itoa(len(text)) + " bytes)"
	}
	return strconv.Quote(text)
}

// foundText tells a match as text: where it begins and ends, then each capture so, or @ and a place.
func foundText(f impl.Found) string {
	text := strconv.Itoa(f.From) + "-" + strconv.Itoa(f.To)
	for _, c := range f.Caps {
		switch {
		case !c.Place:
			text += " " + strconv.Itoa(c.From) + "-" + strconv.Itoa(c.To)
		case c.From == c.To:
			text += " @" + strconv.Itoa(c.From)
		default:
			text += " a place that ends elsewhere"
		}
	}
	return text
}

// patternCodeText is the name of a code; a wrong one if something is told beside it.
func patternCodeText(code int, beside bool) string {
	if beside {
		return "more than a code"
	}
	return []string{"no code", "large", "bad", "init", "steps", "repl", "long"}[code]
}

// findText tells an answer of Find as text: the match, none, or the code.
func findText(f impl.Found, is bool, code int) string {
	empty := f.From == 0 && f.To == 0 && len(f.Caps) == 0
	switch {
	case code != 0:
		return patternCodeText(code, is || !empty)
	case is:
		return foundText(f)
	case !empty:
		return "none, with more"
	}
	return "none"
}

// findAllText tells an answer of FindAll as text: the matches, or the code.
func findAllText(list []impl.Found, code int) string {
	if code != 0 {
		return patternCodeText(code, len(list) != 0)
	}
	var texts []string
	for _, f := range list {
		texts = append(texts, foundText(f))
	}
	return strings.Join(texts, ", ")
}

// gsubText tells an answer of Gsub as text: the number of matches and the text, or the code.
func gsubText(text string, count, code int) string {
	if code != 0 {
		return patternCodeText(code, text != "" || count != 0)
	}
	return strconv.Itoa(count) + " " + text
}

// checkFind holds an answer of Find against what is told by hand, and against the model.
func checkFind(t *testing.T, subject, pattern string, init int, want string) {
	t.Helper()
	if got := findText(impl.Find(subject, pattern, init)); got != want {
		t.Errorf("Find(%s, %s, %d) = %s, not %s", short(subject), short(pattern), init, got, want)
	}
	if got := findText(modelFind(subject, pattern, init)); got != want {
		t.Errorf("the model: Find(%s, %s, %d) = %s, not %s", short(subject), short(pattern), init, got, want)
	}
}

func checkFindAll(t *testing.T, subject, pattern, want string) {
	t.Helper()
	if got := findAllText(impl.FindAll(subject, pattern)); got != want {
		t.Errorf("FindAll(%s, %s) = %s, not %s", short(subject), short(pattern), short(got), short(want))
	}
	if got := findAllText(modelFindAll(subject, pattern)); got != want {
		t.Errorf("the model: FindAll(%s, %s) = %s, not %s", short(subject), short(pattern), short(got), short(want))
	}
}

func checkGsub(t *testing.T, subject, pattern, repl string, most int, want string) {
	t.Helper()
	if got := gsubText(impl.Gsub(subject, pattern, repl, most)); got != want {
		t.Errorf("Gsub(%s, %s, %s, %d) = %s, not %s", short(subject), short(pattern), short(repl), most, short(got), short(want))
	}
	if got := gsubText(modelGsub(subject, pattern, repl, most)); got != want {
		t.Errorf("the model: Gsub(%s, %s, %s, %d) = %s, not %s", short(subject), short(pattern), short(repl), most, short(got), short(want))
	}
}

// checkPatternByModel holds all three calls against the model, and looks for promise 16. It tells what Find answered.
func checkPatternByModel(t *testing.T, subject, pattern string) string {
	t.Helper()
	first := findText(impl.Find(subject, pattern, 0))
	checkFind(t, subject, pattern, 0, first)
	all, code := impl.FindAll(subject, pattern)
	checkFindAll(t, subject, pattern, findAllText(all, code))
	checkGsub(t, subject, pattern, "%0", len(subject)+1, gsubText(impl.Gsub(subject, pattern, "%0", len(subject)+1)))
	checkFirstOfAll(t, subject, pattern)
	return first
}

// checkFirstOfAll looks for promise 16, as far as the steps go.
func checkFirstOfAll(t *testing.T, subject, pattern string) {
	t.Helper()
	first := findText(impl.Find(subject, pattern, 0))
	all, code := impl.FindAll(subject, pattern)
	if code != 0 {
		return
	}
	want := "none"
	if len(all) > 0 {
		want = foundText(all[0])
	}
	if first != want {
		t.Errorf("Find(%s, %s) = %s, but FindAll begins with %s", short(subject), short(pattern), first, want)
	}
	if len(all) < impl.MaxFound {
		text, count, code := impl.Gsub(subject, pattern, "%0", len(subject)+1)
		if text != subject || count != len(all) || code != 0 {
			t.Errorf("Gsub(%s, %s) = %s, %d, %d with %d matches", short(subject), short(pattern), short(text), count, code, len(all))
		}
	}
}
