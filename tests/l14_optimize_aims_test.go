package tests

import (
	"fmt"
	"strings"
	"testing"

	"loop.example/g00002/impl"
)

// Chapter 15, step 1: what a jump goes to, and where it goes instead.

// roomyHead is the head of a function in which most code is safe.
const roomyHead = "regs 12 line 1 dots\n"

// shortens holds a function, told as its instructions alone, against what it is made to; each has its own line, told or not.
func shortens(t *testing.T, code, want string) {
	t.Helper()
	shortensTo(t, roomyHead+eachOwnLine(code), roomyHead+eachOwnLine(want))
}

// eachOwnLine sets the instructions of a row, which are told apart by semicolons, at the lines that are told ahead of them.
func eachOwnLine(code string) string { return strings.ReplaceAll(strings.TrimSpace(code), ";", "\n") }

// shortensTo holds a whole chunk against what it is made to, every field, and both against each other at a run.
func shortensTo(t *testing.T, text, want string) {
	t.Helper()
	chunk, wanted := coded(t, text), coded(t, want)
	got, verdict := impl.Optimize(chunk)
	if verdict != (impl.Verdict{}) || !sameChunk(got, wanted) {
		t.Errorf("Optimize tells %+v and makes of\n%s\nthis:\n%s\nnot\n%s", verdict, codeText(chunk), codeText(got), codeText(wanted))
		return
	}
	checkShorter(t, text, chunk)
	limits := paced([]int{0, 1, 10}[len(text)%3])
	limits.Steps = 50
	checkSameRuns(t, text, chunk, got, limits)
}

// staysAsItIs holds a function of which nothing can be left out or aimed anew.
func staysAsItIs(t *testing.T, code string) {
	t.Helper()
	shortens(t, code, code)
}

// jumpNames are the instructions that can jump, with an A where they have one.
func jumpNames() []string {
	return []string{"Jump", "JumpIf 0", "JumpNot 0", "ForPrep 0", "ForLoop 0", "EachLoop 0"}
}

func TestOptimizeJumpToJump(t *testing.T) {
	t.Parallel()
	for _, name := range jumpNames() {
		behind, left := "3: Tick; 4: Return 0 1;", "3: Tick; 4: Return 0 1;"
		if name == "Jump" {
			behind, left = "3: x: Tick; 4: Return 0 1;", "3: x: Tick; 4: Return 0 1;"
			name = "JumpIf 1 x; 2: Jump"
		}
		// To one, which nothing else comes to then.
		shortens(t, "1: "+name+" a;"+behind+"5: a: Jump b; 6: Tick; 7: b: Return 1 2", "1: "+name+" b;"+left+"7: b: Return 1 2")
		// To one that others come to as well.
		shortens(t, "1: "+name+" a;"+behind+"5: c: Tick; 6: Nil 2 1; 7: a: Jump b; 8: Tick; 9: b: Return 1 2", "1: "+name+" b;"+left+"9: b: Return 1 2")
		shortens(t, "1: "+name+" a; 3: x: Tick; 4: JumpNot 5 z; 5: Nil 2 1; 6: a: Jump b; 7: z: Tick; 8: b: Return 1 2", "1: "+name+" b; 3: x: Tick; 4: JumpNot 5 z; 5: Nil 2 1; 6: a: Jump b; 7: z: Tick; 8: b: Return 1 2")
		// Through several, in any order of their places ahead.
		shortens(t, "1: "+name+" a;"+behind+"5: a: Jump b; 6: b: Jump c; 7: Tick; 8: c: Jump d; 9: Tick; 10: d: Return 1 2", "1: "+name+" d;"+left+"10: d: Return 1 2")
		// To one that goes back, to a Tick.
		shortens(t, "0: b: Tick; 1: "+name+" a;"+behind+"5: a: Jump b", "0: b: Tick; 1: "+name+" b;"+left)
		shortens(t, "0: b: Tick; 1: "+name+" a;"+behind+"5: a: Jump c; 6: Tick; 7: c: Jump b", "0: b: Tick; 1: "+name+" b;"+left)
		// To what is no jump, or one of another kind, it goes as it did.
		staysAsItIs(t, "1: "+name+" a;"+behind+"5: a: Tick; 6: Return 1 2")
		staysAsItIs(t, "1: "+name+" a;"+behind+"5: a: ForPrep 4 b; 6: Tick; 7: b: Return 1 2")
		staysAsItIs(t, "1: "+name+" a;"+behind+"5: a: EachLoop 4 b; 6: Tick; 7: b: Return 1 2")
		staysAsItIs(t, "1: "+name+" a;"+behind+"5: a: JumpIf 9 b; 6: Tick; 7: b: Return 1 2")
		staysAsItIs(t, "1: "+name+" a;"+behind+"5: a: JumpNot 9 b; 6: Tick; 7: b: Return 1 2")
	}
}

// A is no register of these: what stands there makes no difference.
func TestOptimizeJumpWithOtherOperands(t *testing.T) {
	t.Parallel()
	chunk := coded(t, roomyHead+"1: JumpIf 0 a; 2: Tick; 3: Return 0 1; 4: a: Jump b; 5: Tick; 6: b: Tick; 7: Return 0 1")
	code := chunk.Protos[0].Code
	code[0].C, code[3].A, code[3].C, code[5].A, code[5].B, code[5].C = 7, 200, -5, 255, -9, 8
	got := checkShorter(t, "operands", chunk)
	want := coded(t, roomyHead+"1: JumpIf 0 b; 2: Tick; 3: Return 0 1; 6: b: Tick; 7: Return 0 1")
	want.Protos[0].Code[0].C, want.Protos[0].Code[3] = 7, code[5]
	if !sameChunk(got, want) {
		t.Errorf("%s", codeText(got))
	}
	// A Jump and a Move are told by what they do; C, and A of a Jump, say nothing.
	chunk = coded(t, roomyHead+"1: Move 3 3; 2: Jump b; 3: b: JumpIf 2 c; 4: c: Return 0 1")
	for at := range 3 {
		chunk.Protos[0].Code[at].C = -1 - at
	}
	chunk.Protos[0].Code[1].A = 99
	if got := checkShorter(t, "operands", chunk); len(got.Protos[0].Code) != 1 {
		t.Errorf("%s", codeText(got))
	}
}

// Jumps that go round in a circle come by a Tick, at which they end; a circle without one is no safe chunk.
func TestOptimizeCircles(t *testing.T) {
	t.Parallel()
	staysAsItIs(t, "1: a: Tick; 2: Jump a")
	staysAsItIs(t, "1: a: Tick; 2: Nil 0 1; 3: Jump a")
	shortens(t, "1: a: Tick; 2: Jump c; 3: b: Tick; 4: Jump a; 5: c: Jump b", "1: a: Tick; 3: Tick; 4: Jump a")
	shortens(t, "1: a: Tick; 2: Jump b; 3: c: Tick; 4: Jump a; 5: b: Jump d; 6: Tick; 7: d: Jump c", "1: a: Tick; 3: Tick; 4: Jump a")
	shortens(t, "1: a: Tick; 2: JumpIf 0 b; 3: Jump c; 4: b: Jump d; 5: c: Jump d; 6: d: Jump a", "1: a: Tick; 2: JumpIf 0 a; 3: Jump a")
	shortens(t, "1: Jump b; 2: a: Tick; 3: Jump b; 4: b: Jump a", "2: a: Tick; 3: Jump a")
	shortens(t, "1: JumpIf 0 c; 2: a: Tick; 3: b: Jump c; 4: Tick; 5: c: Jump a", "2: a: Tick; 3: Jump a")
	for _, code := range []string{"1: a: Jump a", "1: Tick; 2: a: Jump a", "1: a: Jump b; 2: b: Jump a", "1: Jump c; 2: a: Jump b; 3: b: Jump c; 4: c: Jump a", "1: a: JumpIf 0 a; 2: Return 0 1", "1: a: JumpNot 0 b; 2: b: JumpIf 0 a; 3: Return 0 1"} {
		chunk := coded(t, roomyHead+eachOwnLine(code))
		want := impl.Verify(chunk)
		got, verdict := impl.Optimize(chunk)
		if verdict != want || want.Code != impl.ChunkJump || len(got.Protos) != 0 {
			t.Errorf("%s: %+v with %d functions, Verify tells %+v", code, verdict, len(got.Protos), want)
		}
	}
}

// JumpIf and JumpNot to the same instruction, and to the other of the two.
func TestOptimizeChoiceToChoice(t *testing.T) {
	t.Parallel()
	for _, c := range [][2]string{{"JumpIf", "JumpNot"}, {"JumpNot", "JumpIf"}} {
		same, other := c[0], c[1]
		for _, a := range []string{"0", "7", "11"} {
			edit := func(text string) string {
				return strings.NewReplacer("SAME", same, "OTHER", other, "A", a).Replace(text)
			}
			// To the same with the same A: to where that goes; through several; and back.
			shortens(t, edit("1: SAME A a; 2: Tick; 3: a: SAME A b; 4: Nil 1 1; 5: b: Return 0 1"), edit("1: SAME A b; 2: Tick; 3: SAME A b; 4: Nil 1 1; 5: b: Return 0 1"))
			shortens(t, edit("1: SAME A a; 2: Tick; 3: Return 0 1; 4: a: SAME A b; 5: Nil 1 1; 6: b: Return 0 2"), edit("1: SAME A b; 2: Tick; 3: Return 0 1; 6: b: Return 0 2"))
			shortens(t, edit("1: SAME A a; 2: Tick; 3: a: SAME A b; 4: Nil 1 1; 5: b: SAME A c; 6: Nil 2 1; 7: c: Return 0 1"), edit("1: SAME A c; 2: Tick; 3: SAME A c; 4: Nil 1 1; 5: SAME A c; 6: Nil 2 1; 7: c: Return 0 1"))
			shortens(t, edit("0: z: Tick; 1: SAME A a; 2: Tick; 3: a: SAME A z; 4: Return 0 1"), edit("0: z: Tick; 1: SAME A z; 2: Tick; 3: SAME A z; 4: Return 0 1"))
			// To the other with the same A: to the place behind that.
			shortens(t, edit("1: SAME A a; 2: Tick; 3: a: OTHER A b; 4: Nil 1 1; 5: b: Return 0 1"), edit("1: SAME A c; 2: Tick; 3: OTHER A b; 4: c: Nil 1 1; 5: b: Return 0 1"))
			shortens(t, edit("1: SAME A a; 2: Tick; 3: Return 0 1; 4: a: OTHER A b; 5: Nil 1 1; 6: b: Return 0 2"), edit("1: SAME A c; 2: Tick; 3: Return 0 1; 5: c: Nil 1 1; 6: Return 0 2"))
			shortens(t, edit("0: z: Tick; 1: SAME A a; 2: Tick; 3: a: OTHER A z; 4: Return 0 1"), edit("0: z: Tick; 1: SAME A c; 2: Tick; 3: OTHER A z; 4: c: Return 0 1"))
			// There stands again such a one: the other, several of it, the same, a Jump.
			shortens(t, edit("1: SAME A a; 2: Tick; 3: a: OTHER A e; 4: OTHER A f; 5: Nil 1 1; 6: e: Nil 2 1; 7: f: Return 0 1"), edit("1: SAME A c; 2: Tick; 3: OTHER A e; 4: OTHER A f; 5: c: Nil 1 1; 6: e: Nil 2 1; 7: f: Return 0 1"))
			shortens(t, edit("1: SAME A a; 2: Tick; 3: a: OTHER A e; 4: OTHER A f; 5: OTHER A f; 6: Nil 1 1; 7: e: Nil 2 1; 8: f: Return 0 1"), edit("1: SAME A c; 2: Tick; 3: OTHER A e; 4: OTHER A f; 5: OTHER A f; 6: c: Nil 1 1; 7: e: Nil 2 1; 8: f: Return 0 1"))
			shortens(t, edit("1: SAME A a; 2: Tick; 3: a: OTHER A e; 4: SAME A f; 5: Nil 1 1; 6: e: Nil 2 1; 7: f: Return 0 1"), edit("1: SAME A f; 2: Tick; 3: OTHER A e; 4: SAME A f; 5: Nil 1 1; 6: e: Nil 2 1; 7: f: Return 0 1"))
			shortens(t, edit("1: SAME A a; 2: Tick; 3: a: OTHER A e; 4: Jump f; 5: Nil 1 1; 6: e: Nil 2 1; 7: f: Return 0 1"), edit("1: SAME A f; 2: Tick; 3: OTHER A e; 4: Jump f; 6: e: Nil 2 1; 7: f: Return 0 1"))
			// By a Jump to one of both, and from there by a Jump.
			shortens(t, edit("1: SAME A a; 2: Tick; 3: Return 0 1; 4: a: Jump b; 5: Tick; 6: b: OTHER A f; 7: Jump c; 8: Tick; 9: c: Nil 1 1; 10: f: Return 0 2"), edit("1: SAME A c; 2: Tick; 3: Return 0 1; 9: c: Nil 1 1; 10: Return 0 2"))
			shortens(t, edit("1: SAME A a; 2: Tick; 3: Return 0 1; 4: a: Jump b; 5: Tick; 6: b: SAME A d; 7: Tick; 8: d: Jump c; 9: Tick; 10: c: Nil 1 1; 11: Return 0 2"), edit("1: SAME A c; 2: Tick; 3: Return 0 1; 10: c: Nil 1 1; 11: Return 0 2"))
			// With another A nothing of this holds.
			staysAsItIs(t, edit("1: SAME A a; 2: Tick; 3: a: SAME 5 b; 4: Nil 1 1; 5: b: Return 0 1"))
			staysAsItIs(t, edit("1: SAME A a; 2: Tick; 3: a: OTHER 5 b; 4: Nil 1 1; 5: b: Return 0 1"))
			// It goes over one with the same A and comes to one with another; behind that it doesn't look.
			shortens(t, edit("1: SAME A a; 2: Tick; 3: a: OTHER A e; 4: SAME 5 f; 5: SAME A e; 6: e: Nil 2 1; 7: f: Return 0 1"), edit("1: SAME A c; 2: Tick; 3: OTHER A e; 4: c: SAME 5 f; 6: e: Nil 2 1; 7: f: Return 0 1"))
		}
	}
}

// From the last instruction to the first: a jump comes to those behind it as they are by then, and to the end in one round.
func TestOptimizeOrderOfAims(t *testing.T) {
	t.Parallel()
	const count = 60
	ahead, behind := "", ""
	wanted, last := "", ""
	for i := range count {
		ahead += fmt.Sprintf("%d: JumpIf %d m%d;", i+1, i%12, i)
		wanted += fmt.Sprintf("%d: JumpIf %d m%d;", i+1, i%12, count)
		behind += fmt.Sprintf("%d: m%d: Jump m%d; %d: Tick;", 100+i, i, i+1, 100+i)
		last = fmt.Sprintf("%d: m%d: Nil 0 1; %d: Return 0 1", 100+count, count, 100+count)
	}
	shortens(t, ahead+"90: Tick; 91: Return 0 1;"+behind+last, wanted+"90: Tick; 91: Return 0 1;"+last)
	// One that is aimed anew may be what another goes to: by where it goes then, it is left out with all that it went by.
	shortens(t, "1: JumpIf 0 a; 2: Return 0 1; 3: a: JumpIf 0 b; 4: Tick; 5: b: JumpNot 0 c; 6: Jump d; 7: c: Tick; 8: d: Return 0 2", "1: JumpIf 0 d; 2: Return 0 1; 8: d: Return 0 2")
	shortens(t, "1: JumpNot 3 a; 2: Return 0 1; 3: a: Jump b; 4: Tick; 5: b: JumpIf 3 c; 6: JumpNot 3 d; 7: c: Tick; 8: d: Jump e; 9: e: Return 0 2", "1: JumpNot 3 e; 2: Return 0 1; 9: e: Return 0 2")
}
