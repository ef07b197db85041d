package tests

import (
	"fmt"
	"regexp"
	"slices"
	"strings"
	"testing"

	"loop.example/g00002/impl"
)

// The model says chapter 16 once more: listings are printed, words are found by patterns, and lines are held against forms.

// listedNames are the names of the instructions in listings, by their numbers; listedOps the numbers by their names.
var listedNames, listedOps = func() (names [256]string, ops map[string]int) {
	ops = map[string]int{}
	for _, op := range knownOps() {
		names[op] = strings.ToLower(instructionOf(op).name)
		if op == impl.InsArith+impl.NumNot {
			names[op] = "bnot"
		}
		ops[names[op]] = op
	}
	return names, ops
}()

func listedString(text string) string {
	var written strings.Builder
	for _, b := range []byte(text) {
		switch {
		case b == '"' || b == '\\':
			written.Write([]byte{'\\', b})
		case b >= ' ' && b <= '~':
			written.WriteByte(b)
		default:
			fmt.Fprintf(&written, `\%03d`, b)
		}
	}
	return `"` + written.String() + `"`
}

func listedConst(k impl.Const) string {
	switch k.Kind {
	case impl.NodeInt:
		return fmt.Sprint("int ", k.Int)
	case impl.NodeFloat:
		return "float " + modelFormat(wordNumber(k.Bits))
	}
	return "string " + listedString(k.Text)
}

// modelLabels gives each place that a jump goes to a label.
func modelLabels(code []impl.Instr) map[int]string {
	isAim := make([]bool, len(code))
	for _, i := range code {
		if modelJumps(i.Op) && i.B >= 0 && i.B < len(code) {
			isAim[i.B] = true
		}
	}
	labels := map[int]string{}
	for place, is := range isAim {
		if is {
			labels[place] = fmt.Sprint("@", len(labels))
		}
	}
	return labels
}

// listedProto is the part of a listing that a function is.
func listedProto(p impl.Proto) string {
	var text strings.Builder
	fmt.Fprintf(&text, "function %d params %d dots %d regs %d\n", p.Line, p.Params, map[bool]int{true: 1}[p.Dots], p.Regs)
	for _, up := range p.Ups {
		fmt.Fprintf(&text, "  up %s %d\n", map[bool]string{true: "local", false: "outer"}[up.FromLocal], up.Index)
	}
	for _, k := range p.Consts {
		fmt.Fprintf(&text, "  const %s\n", listedConst(k))
	}
	labels := modelLabels(p.Code)
	for at, i := range p.Code {
		ahead, b := "   ", fmt.Sprint(i.B)
		if label, is := labels[at]; is {
			ahead = label + ":"
		}
		if label, is := labels[i.B]; is && modelJumps(i.Op) {
			b = label
		}
		fmt.Fprintf(&text, "%s %d %s %d %s %d\n", ahead, p.Lines[at], listedNames[i.Op], i.A, b, i.C)
	}
	return text.String()
}

// modelList is the listing of a chunk, and the code.
func modelList(c impl.Chunk) (string, int) {
	if len(c.Protos) > 65535 {
		return "", 12
	}
	for _, p := range c.Protos {
		if !canBeWritten(p) {
			return "", 12
		}
	}
	for _, p := range c.Protos {
		for _, i := range p.Code {
			if listedNames[i.Op] == "" {
				return "", 2
			}
		}
	}
	var text strings.Builder
	for _, p := range c.Protos {
		if text.WriteString(listedProto(p)); text.Len() > 262144 {
			return "", 31
		}
	}
	return text.String(), 0
}

var (
	listedBlank  = regexp.MustCompile(`^(?:[\t\r ]+|;.*$)`)
	listedQuoted = regexp.MustCompile(`^"(?:[^"\\]|\\[abtnvfr\\"']|\\x[0-9a-fA-F]{2}|\\[0-9]{1,3})*"`)
	listedByte   = regexp.MustCompile(`\\x..|\\[0-9]{1,3}|\\.|[^\\]`)
	listedPlain  = regexp.MustCompile(`^[^\t\r ;]+`)
	listedLabel  = regexp.MustCompile(`^@([0-9]{1,5})(:?)$`)
	listedFree   = regexp.MustCompile(`^[A-Za-z_][A-Za-z_0-9]*$`)
)

// listedWord is a word with where it begins and ends; its kind is one of string, label, setting, number and name.
type listedWord struct {
	kind, text string
	number     impl.Number
	from, to   int
}

// modelWord reads the word with which the rest of a line begins; its code is not 0 if it is none.
func modelWord(rest string) (listedWord, int) {
	if rest[0] == '"' {
		whole := listedQuoted.FindString(rest)
		if whole == "" {
			return listedWord{}, 35
		}
		w := listedWord{kind: "string", to: len(whole)}
		var text strings.Builder
		for _, part := range listedByte.FindAllString(whole[1:len(whole)-1], -1) {
			if part[0] != '\\' {
				text.WriteString(part)
				continue
			}
			b, ok := modelEscape(part)
			if !ok {
				return listedWord{}, 35
			}
			text.WriteByte(b)
		}
		w.text = text.String()
		return w, 0
	}
	text := listedPlain.FindString(rest)
	w := listedWord{text: text, to: len(text)}
	if label := listedLabel.FindStringSubmatch(text); label != nil {
		w.kind = map[string]string{"": "label", ":": "setting"}[label[2]]
		w.text = strings.TrimLeft(label[1], "0")
		return w, 0
	}
	if n, ok := modelRead(text); ok {
		w.kind, w.number = "number", n
		return w, 0
	}
	w.kind = "name"
	if !listedFree.MatchString(text) {
		return listedWord{}, 32
	}
	return w, 0
}

// modelWords cuts a line into words; a fault is told by its code and place.
func modelWords(line string, at int) (all []listedWord, code, where int) {
	for line != "" {
		if blank := listedBlank.FindString(line); blank != "" {
			line, at = line[len(blank):], at+len(blank)
			continue
		}
		w, code := modelWord(line)
		if code != 0 {
			return nil, code, at
		}
		line = line[w.to:]
		w.from, w.to = at, at+w.to
		at = w.to
		all = append(all, w)
	}
	return all, 0, 0
}

// modelListing is the reading of a listing: what has been read, and the labels of the last function, by where they are.
type modelListing struct {
	chunk impl.Chunk
	set   map[string]int
	used  []listedUse
}

type listedUse struct {
	label       string
	at, onwards int // where the word is, and the place of its instruction
}

// formOf tells what must stand in a line that begins so, word by word: a name (or several), I an integer, D 0 or 1, V what the
// kind of constant has, S a label that is set, O the name of an instruction, B what may be a label.
func formOf(first listedWord) string {
	switch {
	case first.kind == "name" && first.text == "function":
		return "function I params I dots D regs I"
	case first.kind == "name" && first.text == "up":
		return "up local|outer I"
	case first.kind == "name" && first.text == "const":
		return "const int|float|string V"
	case first.kind == "setting":
		return "S I O I B I"
	case first.kind == "number":
		return "I O I B I"
	}
	return "function|up|const"
}

// misfit is the code of a word that can't stand where it does, or 0.
func (m *modelListing) misfit(slot string, row []listedWord, n int) int {
	w := row[n]
	switch slot {
	case "V":
		slot = map[string]string{"int": "I", "float": "X", "string": "T"}[row[1].text]
	case "B":
		slot = "I"
		if w.kind == "label" && modelJumps(listedOps[row[n-2].text]) {
			return 0
		}
	}
	kind := map[string]string{"I": "number", "D": "number", "X": "number", "T": "string", "S": "setting"}[slot]
	if kind == "" {
		kind = "name"
	}
	_, isSet := m.set[w.text]
	switch {
	case w.kind != kind:
		return 33
	case slot == "O" && listedOps[w.text] == 0:
		return 33
	case kind == "name" && slot != "O" && !slices.Contains(strings.Split(slot, "|"), w.text):
		return 33
	case (slot == "I" || slot == "D") && w.number.IsFloat:
		return 34
	case slot == "D" && w.number.Int != 0 && w.number.Int != 1:
		return 34
	case slot == "S" && isSet:
		return 37
	}
	return 0
}

// isMisplaced tells whether a line of this form can't stand behind what has been read.
func (m *modelListing) isMisplaced(form string) bool {
	if strings.HasPrefix(form, "function") {
		return false
	}
	if len(m.chunk.Protos) == 0 {
		return true
	}
	p := m.chunk.Protos[len(m.chunk.Protos)-1]
	return strings.HasPrefix(form, "up") && len(p.Consts)+len(p.Code) > 0 || strings.HasPrefix(form, "const") && len(p.Code) > 0
}

// line reads a line that begins at a place; a fault is told by its code and place.
func (m *modelListing) line(line string, at int) (code, where int) {
	row, code, where := modelWords(line, at)
	if code != 0 || len(row) == 0 {
		return code, where
	}
	form := formOf(row[0])
	if strings.HasPrefix(form, "function ") {
		if code, where := m.end(); code != 0 {
			return code, where
		}
	}
	if m.isMisplaced(form) {
		return 36, row[0].from
	}
	slots := strings.Fields(form)
	for n, slot := range slots {
		if n == len(row) {
			return 33, row[n-1].to
		}
		if code := m.misfit(slot, row, n); code != 0 {
			return code, row[n].from
		}
	}
	if len(row) > len(slots) {
		return 39, row[len(slots)].from
	}
	m.add(row)
	return 0, 0
}

// add puts what a line says behind what has been read.
func (m *modelListing) add(row []listedWord) {
	n := func(at int) int { return row[at].number.Int }
	if row[0].text == "function" {
		m.chunk.Protos = append(m.chunk.Protos, impl.Proto{Line: n(1), Params: n(3), Dots: n(5) == 1, Regs: n(7)})
		m.set, m.used = map[string]int{}, nil
		return
	}
	p := &m.chunk.Protos[len(m.chunk.Protos)-1]
	switch {
	case row[0].text == "up":
		p.Ups = append(p.Ups, impl.Up{FromLocal: row[1].text == "local", Index: n(2)})
		return
	case row[0].text == "const" && row[1].text == "int":
		p.Consts = append(p.Consts, impl.Const{Kind: impl.NodeInt, Int: n(2)})
		return
	case row[0].text == "const" && row[1].text == "float":
		p.Consts = append(p.Consts, impl.Const{Kind: impl.NodeFloat, Bits: floatNumber(asFloat(row[2].number)).Bits})
		return
	case row[0].text == "const":
		p.Consts = append(p.Consts, impl.Const{Kind: impl.NodeString, Text: row[2].text})
		return
	}
	if row[0].kind == "setting" {
		m.set[row[0].text] = len(p.Code)
		row = row[1:]
	}
	if row[3].kind == "label" {
		m.used = append(m.used, listedUse{row[3].text, row[3].from, len(p.Code)})
	}
	p.Code = append(p.Code, impl.Instr{Op: listedOps[row[1].text], A: n(2), B: n(3), C: n(4)})
	p.Lines = append(p.Lines, n(0))
}

// end has the jumps of the last function go to where their labels are set.
func (m *modelListing) end() (code, where int) {
	for _, use := range m.used {
		place, is := m.set[use.label]
		if !is {
			return 38, use.at
		}
		m.chunk.Protos[len(m.chunk.Protos)-1].Code[use.onwards].B = place
	}
	return 0, 0
}

// modelAssemble reads a listing.
func modelAssemble(text string) (impl.Chunk, impl.Fault) {
	if len(text) > 262144 {
		return impl.Chunk{}, impl.Fault{Code: 31, Line: 1}
	}
	var m modelListing
	at, code, where := 0, 0, 0
	for _, line := range strings.Split(text, "\n") {
		if code, where = m.line(line, at); code != 0 {
			break
		}
		at += len(line) + 1
	}
	if code == 0 {
		code, where = m.end()
	}
	if code != 0 {
		return impl.Chunk{}, impl.Fault{Code: code, Line: 1 + strings.Count(text[:where], "\n"), At: where}
	}
	return m.chunk, impl.Fault{}
}

// checkListed lists a chunk and reads it again (P27), if it can be listed, and tells the code.
func checkListed(t *testing.T, name string, chunk impl.Chunk) int {
	t.Helper()
	text, code := impl.List(chunk)
	if code != 0 {
		if text != "" {
			t.Errorf("%s: List tells %d and %s", short(name), code, short(text))
		}
		return code
	}
	got, fault := impl.Assemble(text)
	if fault != (impl.Fault{}) || !sameChunk(got, chunk) {
		t.Errorf("%s: List gives\n%.3000s\nof which Assemble tells %+v and makes\n%.3000s\nnot\n%.3000s", short(name), text, fault, codeText(got), codeText(chunk))
	}
	if again, code := impl.List(got); code != 0 || again != text {
		t.Errorf("%s: List gives\n%.3000s\nand then %d\n%.3000s", short(name), text, code, again)
	}
	return 0
}

// checkListedByModel holds List, and Assemble of what it gives, against the model, too. It tells the listing and the code.
func checkListedByModel(t *testing.T, name string, chunk impl.Chunk) (string, int) {
	t.Helper()
	text, code := impl.List(chunk)
	if want, wanted := modelList(chunk); text != want || code != wanted {
		t.Errorf("%s: List tells %d and\n%.3000s\nnot %d and\n%.3000s", short(name), code, text, wanted, want)
	}
	checkListed(t, name, chunk)
	if code == 0 {
		checkAssembledByModel(t, text)
	}
	return text, code
}

// checkAssembledByModel holds what Assemble makes of a text against the model and a second call, and tells the code. What it
// makes can be listed or not.
func checkAssembledByModel(t *testing.T, text string) int {
	t.Helper()
	got, fault := impl.Assemble(text)
	want, wanted := modelAssemble(text)
	if fault != wanted || !sameChunk(got, want) {
		t.Errorf("of\n%.3000q\nAssemble tells %+v and makes\n%.3000s\nnot %+v and\n%.3000s", text, fault, codeText(got), wanted, codeText(want))
	}
	if again, told := impl.Assemble(text); told != fault || !sameChunk(again, got) {
		t.Errorf("of\n%.3000q\nAssemble tells %+v and makes\n%.3000s\nthen %+v and\n%.3000s", text, fault, codeText(got), told, codeText(again))
	}
	if fault.Code == 0 {
		checkListed(t, text, got)
	}
	return fault.Code
}
