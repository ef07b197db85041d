package tests

import (
	"strings"
	"testing"
)

// closers calls a function made by hand with two that tell their name and the error, a function that fails, a closer that
// fails, and a function that gives something.
const closers = "return f(c('a'), c('b'), function() error('e', 0) end, c('bad', function() error('no', 0) end), function() return 'g' end)"

func TestExecClosingByHand(t *testing.T) {
	t.Parallel()
	for _, r := range [][2]string{
		{"Tbc 0; Return 2 1", "a(nil)  ="},
		{"Tbc 0; Tbc 1; Return 2 1", "b(nil) a(nil)  ="},
		{"Tbc 1; Tbc 0; Return 2 1", "a(nil) b(nil)  ="},
		{"Tbc 0; Tbc 0; Return 2 1", "a(nil) a(nil)  ="},
		{"Tbc 0; Tbc 1; Tbc 0; Return 2 1", "a(nil) b(nil) a(nil)  ="},
		{"Tbc 5; Return 2 1", "="},
		{"Bool 5 0; Tbc 5; Return 2 1", "="},
		{"Tbc 2", "! 7: variable got a function value that cannot be closed"},
		{"Tbc 0; Tbc 2", "a(7: variable got a function value that cannot be closed)  ! 7: variable got a function value that cannot be closed"},
		{"Tbc 0; Int 5 3; Tbc 5", "a(7: variable got a number value that cannot be closed)  ! 7: variable got a number value that cannot be closed"},
		// Its value of now.
		{"Tbc 0; Move 0 1; Return 2 1", "b(nil)  ="},
		{"Tbc 0; Nil 0 1; Return 2 1", "="},
		{"Tbc 0; Bool 0 0; Return 2 1", "="},
		{"Tbc 0; Int 0 1; Return 2 1", "! 8: attempt to call a nil value"},
		{"Tbc 0; Table 0; Return 2 1", "! 8: attempt to call a nil value"},
		{"Tbc 1; Tbc 0; Int 0 1; Return 2 1", "b(8: attempt to call a nil value)  ! 8: attempt to call a nil value"},
		{"Tbc 0; Tbc 0; Move 0 1; Return 2 1", "b(nil) b(nil)  ="},
		// Close of none, one and several.
		{"Close 0; Return 2 1", "="},
		{"Tbc 1; Close 2; Call 4 1 2; Return 4 2", "b(nil)  = g"},
		{"Tbc 1; Close 1; Call 4 1 2; Return 4 2", "b(nil)  = g"},
		{"Tbc 0; Tbc 1; Close 1; Call 4 1 2; Return 4 2", "b(nil) a(nil)  = g"},
		{"Tbc 0; Tbc 1; Close 0; Call 4 1 2; Return 4 2", "b(nil) a(nil)  = g"},
		{"Tbc 1; Tbc 0; Close 1; Call 4 1 2; Return 4 2", "b(nil) a(nil)  = g"},
		{"Tbc 1; Tbc 0; Close 1; Tbc 1; Return 4 1", "b(nil) b(nil) a(nil)  ="},
		{"Tbc 1; Tbc 1; Tbc 0; Close 1; Return 4 1", "b(nil) b(nil) a(nil)  ="},
		{"Tbc 0; Close 0; Close 0; Return 4 1", "a(nil)  ="},
		{"Tbc 0; Close 5; Return 4 1", "a(nil)  ="},
		// Errors on the way.
		{"Tbc 0; Call 2 1 1; Return 4 1", "a(e)  ! e"},
		{"Tbc 0; Tbc 1; Call 2 1 1; Return 4 1", "b(e) a(e)  ! e"},
		{"Tbc 0; Tbc 3; Call 2 1 1; Return 4 1", "bad(e) a(no)  ! no"},
		{"Tbc 0; Tbc 3; Return 4 1", "bad(nil) a(no)  ! no"},
		{"Tbc 0; Tbc 3; Tbc 1; Return 4 1", "b(nil) bad(nil) a(no)  ! no"},
		{"Tbc 0; Tbc 3; Close 3; Return 4 1", "bad(nil) a(no)  ! no"},
		{"Tbc 1; Tbc 3; Tbc 0; Close 3; Return 4 1", "bad(nil) a(no) b(no)  ! no"},
		{"Tbc 3; Tbc 3; Tbc 3; Return 4 1", "bad(nil) bad(no) bad(no)  ! no"},
		// Values that wait don't stand in registers.
		{"Tbc 0; Int 5 9; Return 5 2", "a(nil)  = 9"},
		{"Tbc 0; Dots 4 0; Return 4 0", "a(nil)  ="},
		{"Tbc 0; Call 4 1 0; Return 4 0", "a(nil)  = g"},
		// Tails.
		{"Tbc 0; Tail 4 1", "a(nil)  = g"},
		{"Tbc 0; Tbc 3; Tail 4 1", "bad(nil) a(no)  ! no"},
		{"Tbc 0; Tail 2 1", "a(nil)  ! e"},
		{"Tbc 0; Tail 5 1", "a(7: attempt to call a nil value)  ! 7: attempt to call a nil value"},
		{"Tbc 0; GetGlobal 5 0; Int 4 9; Move 4 5; Int 5 9; Tail 4 2", "a(nil)  = number"},
		{"Tbc 0; GetGlobal 4 0; Tail 4 1", "a(7: bad argument #1 to 'type' (value expected))  ! 7: bad argument #1 to 'type' (value expected)"},
		{"Tbc 0; Tbc 3; GetGlobal 4 0; Int 5 9; Tail 4 2", "bad(nil) a(no)  ! no"},
	} {
		closesTo(t, r[0], r[1])
	}
}

// closesTo has the code of a row carried out in line 7, a return in line 8.
func closesTo(t *testing.T, code, want string) {
	t.Helper()
	if !strings.Contains(code, "Return") && !strings.Contains(code, "Tail") {
		code += "; Return 0 1"
	}
	code = strings.Replace(code, "Return", "8: Return", 1)
	splicedTo(t, "local function f() end "+closer+closers, `regs 6 line 7 params 5 dots consts "type"`+"\n7: Tick; "+code, want)
}
