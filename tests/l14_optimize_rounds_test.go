package tests

import (
	"fmt"
	"testing"
)

// Chapter 15, steps 2 and 3, and what a round leaves to the next.

func TestOptimizeUnreached(t *testing.T) {
	t.Parallel()
	// Behind Jump, Return and Tail; with what jumps to there from there.
	shortens(t, "1: Return 0 1; 2: Tick; 3: Return 0 2", "1: Return 0 1")
	shortens(t, "1: Tail 0 1; 2: Tick; 3: Return 0 2", "1: Tail 0 1")
	shortens(t, "1: a: Tick; 2: Jump a; 3: Tick; 4: Return 0 2", "1: a: Tick; 2: Jump a")
	shortens(t, "1: JumpIf 0 a; 2: Return 0 1; 3: Tick; 4: Nil 0 1; 5: a: Return 0 2", "1: JumpIf 0 a; 2: Return 0 1; 5: a: Return 0 2")
	shortens(t, "1: JumpIf 0 a; 2: Tail 0 1; 3: Tick; 4: Nil 0 1; 5: a: Return 0 2", "1: JumpIf 0 a; 2: Tail 0 1; 5: a: Return 0 2")
	shortens(t, "1: Dots 1 0; 2: Return 1 0; 3: Dots 1 0; 4: Return 1 0", "1: Dots 1 0; 2: Return 1 0")
	shortens(t, "1: Dots 1 0; 2: Tail 0 0; 3: Dots 1 0; 4: Call 0 0 0; 5: Return 0 0", "1: Dots 1 0; 2: Tail 0 0")
	// All others go on behind them.
	staysAsItIs(t, "1: Tick; 2: Move 1 2; 3: Nil 0 1; 4: Bool 0 1; 5: Int 0 -3; 6: Table 0; 7: Not 0 1; 8: Close 3; 9: Tbc 3; 10: Dots 4 3; 11: Concat 1 2 3; 12: Eq 1 2 3; 13: Lt 1 2 3; 14: Le 1 2 3; 15: Len 1 2; 16: Add 1 2 3; 17: Neg 1 2; 18: Call 0 1 1; 19: Each 0 1; 20: GetIndex 1 2 3; 21: SetIndex 1 2 3; 22: SetItem 0 1 1; 23: Dots 1 0; 24: SetList 0 1; 25: Return 0 1")
	// By the jump's place of each that can jump, behind what doesn't go on.
	for _, name := range jumpNames()[1:] {
		staysAsItIs(t, "1: "+name+" a; 2: Return 0 1; 3: a: Tick; 4: Return 0 2")
		staysAsItIs(t, "1: a: Tick; 2: Nil 3 1; 3: "+name+" a; 4: Return 0 2")
	}
	staysAsItIs(t, "1: JumpIf 0 a; 2: Jump b; 3: a: Tick; 4: Return 0 1; 5: b: Tick; 6: Return 0 2")
	// Loops that nothing comes to, one in the other too, and one that two others keep.
	shortens(t, "1: Return 0 1; 2: a: Tick; 3: Nil 0 1; 4: JumpIf 0 a; 5: Jump a", "1: Return 0 1")
	shortens(t, "1: Return 0 1; 2: a: Tick; 3: b: Tick; 4: JumpIf 0 b; 5: Jump a; 6: Return 0 2", "1: Return 0 1")
	shortens(t, "1: JumpIf 3 c; 2: Return 0 1; 3: a: Tick; 4: ForLoop 0 a; 5: b: Tick; 6: JumpNot 2 a; 7: Jump b; 8: c: Tick; 9: Return 0 2", "1: JumpIf 3 c; 2: Return 0 1; 8: c: Tick; 9: Return 0 2")
	shortens(t, "1: Return 0 1; 2: a: Tick; 3: Jump c; 4: b: Tick; 5: Jump a; 6: c: Tick; 7: Jump b", "1: Return 0 1")
	// The loop of an In, whose turn is come to from below alone, stays.
	staysAsItIs(t, "1: Jump c; 2: a: Tick; 3: Nil 7 1; 4: c: Each 0 2; 5: EachLoop 0 a; 6: Return 0 1")
	// What only something jumps to that can't be come to.
	shortens(t, "1: Return 0 1; 2: JumpIf 0 a; 3: Return 0 2; 4: a: Tick; 5: Return 0 3", "1: Return 0 1")
	shortens(t, "1: JumpIf 1 b; 2: Return 0 1; 3: JumpIf 0 a; 4: b: Tick; 5: Return 0 2; 6: a: Tick; 7: Return 0 3", "1: JumpIf 1 b; 2: Return 0 1; 4: b: Tick; 5: Return 0 2")
	shortens(t, "1: Jump b; 2: c: Tick; 3: Jump a; 4: a: Tick; 5: Jump c; 6: b: Tick; 7: Return 0 1", "6: Tick; 7: Return 0 1")
	// The first and the last go.
	shortens(t, "1: Jump a; 2: Tick; 3: Nil 0 1; 4: a: Tick; 5: Return 0 1; 6: Tick; 7: Nil 0 1; 8: Return 0 1", "4: Tick; 5: Return 0 1")
}

func TestOptimizeIdle(t *testing.T) {
	t.Parallel()
	shortens(t, "1: Move 3 3; 2: Return 0 1", "2: Return 0 1")
	shortens(t, "1: Tick; 2: Move 0 0; 3: Move 11 11; 4: Move 1 0; 5: Move 0 1; 6: Move 5 5; 7: Return 0 1", "1: Tick; 4: Move 1 0; 5: Move 0 1; 7: Return 0 1")
	for _, name := range []string{"Jump", "JumpIf 0", "JumpNot 0"} {
		shortens(t, "1: "+name+" a; 2: a: Return 0 1", "2: Return 0 1")
		shortens(t, "1: Tick; 2: "+name+" a; 3: a: Tick; 4: Return 0 1", "1: Tick; 3: Tick; 4: Return 0 1")
	}
	// A loop's instruction to the next one does more than to jump.
	for _, name := range []string{"ForPrep 0", "ForLoop 0", "EachLoop 0"} {
		staysAsItIs(t, "1: Tick; 2: "+name+" a; 3: a: Tick; 4: Return 0 1")
	}
	// So do other instructions that name a register twice.
	staysAsItIs(t, "1: Not 1 1; 2: Len 1 1; 3: Neg 1 1; 4: BitNot 1 1; 5: Concat 1 1 1; 6: Eq 1 1 1; 7: GetIndex 1 1 1; 8: SetIndex 1 1 1; 9: Add 1 1 1; 10: Return 1 2")
	// Several in a row, all at once.
	shortens(t, "1: JumpIf 0 a; 2: a: JumpIf 1 b; 3: b: JumpNot 2 c; 4: c: Move 1 1; 5: Move 2 2; 6: Return 0 1", "6: Return 0 1")
	shortens(t, "1: Jump a; 2: a: Jump b; 3: b: Jump c; 4: c: Return 0 1", "4: Return 0 1")
	// Behind what step 2 has left out in this round, the next one is another.
	shortens(t, "1: Jump a; 2: Tick; 3: Tick; 4: a: Return 0 1", "4: Return 0 1")
	shortens(t, "1: JumpIf 0 a; 2: Jump b; 3: Tick; 4: b: Move 1 1; 5: Jump a; 6: Tick; 7: a: Return 0 1", "7: Return 0 1")
}

// What first can be left out, or aimed anew, in a later round.
func TestOptimizeRounds(t *testing.T) {
	t.Parallel()
	// Jumps over what does nothing; each is the next one's when that has gone.
	shortens(t, "1: JumpIf 0 a; 2: Move 1 1; 3: a: Return 0 1", "3: Return 0 1")
	shortens(t, "1: JumpIf 0 a; 2: JumpNot 1 a; 3: JumpIf 2 a; 4: a: Return 0 1", "4: Return 0 1")
	shortens(t, "1: JumpIf 0 b; 2: JumpNot 1 a; 3: Move 1 1; 4: a: Move 2 2; 5: b: Return 0 1", "5: Return 0 1")
	// A Jump that a Move has hidden: what goes to the Move goes on by it now, and by then nothing else comes to it.
	shortens(t, "1: JumpIf 0 a; 2: Tick; 3: Return 0 1; 4: a: Move 1 1; 5: Jump b; 6: Tick; 7: b: Return 0 2", "1: JumpIf 0 b; 2: Tick; 3: Return 0 1; 7: b: Return 0 2")
	shortens(t, "1: JumpIf 0 a; 2: Tick; 3: Jump c; 4: a: Move 1 1; 5: Jump b; 6: c: Tick; 7: b: Return 0 2", "1: JumpIf 0 b; 2: Tick; 6: Tick; 7: b: Return 0 2")
	// A choice that a Move has hidden, the same and the other; and what only that came to.
	shortens(t, "1: JumpIf 0 a; 2: Tick; 3: Return 0 1; 4: a: Move 1 1; 5: JumpNot 0 b; 6: Tick; 7: Return 0 2; 8: b: Tick; 9: Return 0 3", "1: JumpIf 0 c; 2: Tick; 3: Return 0 1; 6: c: Tick; 7: Return 0 2")
	shortens(t, "1: JumpIf 0 a; 2: Tick; 3: Return 0 1; 4: a: Move 1 1; 5: JumpIf 0 b; 6: c: Tick; 7: Jump c; 8: b: Tick; 9: Return 0 3", "1: JumpIf 0 b; 2: Tick; 3: Return 0 1; 8: b: Tick; 9: Return 0 3")
	// All at once, by the places of now: the choice isn't to the next one while the Moves are there, and is aimed anew behind them.
	shortens(t, "1: JumpIf 0 a; 2: Move 3 3; 3: a: Move 4 4; 4: Jump x; 5: b: Tick; 6: Return 0 1; 7: x: JumpIf 5 b; 8: Return 0 2", "1: JumpIf 0 x; 4: Jump x; 5: b: Tick; 6: Return 0 1; 7: x: JumpIf 5 b; 8: Return 0 2")
	// It is to the next one here, and goes together with the Move.
	shortens(t, "1: JumpIf 0 a; 2: a: Move 3 3; 3: Jump x; 4: Tick; 5: Return 0 1; 6: x: Tick; 7: Return 0 2", "6: Tick; 7: Return 0 2")
	shortens(t, "0: z: Tick; 1: JumpIf 0 a; 2: a: Move 3 3; 3: Jump z", "0: z: Tick; 3: Jump z")
	// To the Jump itself it is aimed anew ahead of that, and stays.
	staysAsItIs(t, "0: z: Tick; 1: JumpIf 0 z; 3: Jump z")
	shortens(t, "0: z: Tick; 1: JumpIf 0 a; 3: a: Jump z", "0: z: Tick; 1: JumpIf 0 z; 3: Jump z")
	// Step 3 looks at what step 2 has left: the first Jump goes, not the second.
	shortens(t, "0: z: Tick; 1: JumpIf 5 y; 2: Jump a; 3: Tick; 4: a: Move 3 3; 5: Jump z; 6: y: Return 0 1", "0: z: Tick; 1: JumpIf 5 y; 5: Jump z; 6: y: Return 0 1")
	// A Jump that is aimed anew in the second round is the next one's in it.
	shortens(t, "1: JumpIf 0 d; 2: Nil 1 1; 3: Jump a; 4: d: Return 0 1; 5: a: Move 3 3; 6: Jump b; 7: b: Return 0 2", "1: JumpIf 0 d; 2: Nil 1 1; 3: Jump b; 4: d: Return 0 1; 7: b: Return 0 2")
	shortens(t, "1: JumpIf 0 d; 2: Nil 1 1; 3: Jump a; 4: b: Tick; 5: Return 0 2; 6: a: Move 3 3; 7: d: Jump b", "1: JumpIf 0 b; 2: Nil 1 1; 4: b: Tick; 5: Return 0 2")
}

// As many rounds as there are instructions.
func TestOptimizeManyRounds(t *testing.T) {
	t.Parallel()
	code := ""
	for i := range 300 {
		code += fmt.Sprintf("%d: JumpIf %d end;", i, i%12)
	}
	shortens(t, code+"900: end: Tick; 901: Return 0 1", "900: Tick; 901: Return 0 1")
	// In each round one more goes, and what went to it is aimed anew over the choice at the end.
	const count = 100
	ahead, row, wanted := "", "", ""
	for i := range count {
		ahead += fmt.Sprintf("%d: JumpIf 0 t%d;", i, i)
		row += fmt.Sprintf("%d: t%d: JumpNot %d e;", 200+i, i, 1+i%11)
		wanted += fmt.Sprintf("%d: JumpIf 0 f;", i)
	}
	shortens(t, ahead+row+"500: e: JumpNot 0 g; 501: Tick; 502: g: Return 0 1", wanted+"500: JumpNot 0 g; 501: f: Tick; 502: g: Return 0 1")
}

func TestOptimizePlacesAndLines(t *testing.T) {
	t.Parallel()
	// Jumps to what is left out: by each that can jump, to a Move, to several, to a jump to the next one.
	for _, name := range jumpNames()[1:] {
		shortens(t, "1: "+name+" a; 2: Tick; 3: Nil 5 1; 4: a: Move 1 1; 5: Tick; 6: Return 0 1", "1: "+name+" a; 2: Tick; 3: Nil 5 1; 5: a: Tick; 6: Return 0 1")
		shortens(t, "1: "+name+" a; 2: Tick; 3: Nil 5 1; 4: a: Move 1 1; 5: Move 2 2; 6: Jump b; 7: Tick; 8: b: Move 4 4; 9: Tick; 10: Return 0 1", "1: "+name+" a; 2: Tick; 3: Nil 5 1; 9: a: Tick; 10: Return 0 1")
		shortens(t, "1: "+name+" a; 2: Tick; 3: Move 5 5; 4: Nil 5 1; 5: a: Nil 6 1; 6: Return 0 1", "1: "+name+" a; 2: Tick; 4: Nil 5 1; 5: a: Nil 6 1; 6: Return 0 1")
		// Back to a place that moves, because something ahead of it or between goes.
		shortens(t, "1: Move 1 1; 2: a: Tick; 3: Nil 5 1; 4: Move 2 2; 5: "+name+" a; 6: Return 0 1", "2: a: Tick; 3: Nil 5 1; 5: "+name+" a; 6: Return 0 1")
		shortens(t, "1: Jump a; 2: Tick; 3: a: Tick; 4: Nil 5 1; 5: "+name+" a; 6: Return 0 1", "3: a: Tick; 4: Nil 5 1; 5: "+name+" a; 6: Return 0 1")
	}
	shortens(t, "1: Move 1 1; 2: a: Tick; 3: Nil 5 1; 4: Move 2 2; 5: Jump a", "2: a: Tick; 3: Nil 5 1; 5: Jump a")
	shortens(t, "1: Jump b; 2: Move 4 4; 3: a: Tick; 4: Move 5 5; 5: Nil 7 1; 6: b: Move 6 6; 7: Each 0 2; 8: EachLoop 0 a; 9: Return 0 1", "1: Jump b; 3: a: Tick; 5: Nil 7 1; 7: b: Each 0 2; 8: EachLoop 0 a; 9: Return 0 1")
	shortens(t, "1: Move 0 0; 2: ForPrep 0 b; 3: a: Tick; 4: Move 4 4; 5: Nil 5 1; 6: ForLoop 0 a; 7: b: Move 1 1; 8: Return 0 1", "2: ForPrep 0 b; 3: a: Tick; 5: Nil 5 1; 6: ForLoop 0 a; 8: b: Return 0 1")
	// Lines stay with their instructions, whatever they are.
	shortens(t, "2147483647: Tick; 0: Move 1 1; 0: Tick; 9: Move 1 1; 5: Tick; 5: Return 0 1", "2147483647: Tick; 0: Tick; 5: Tick; 5: Return 0 1")
}
