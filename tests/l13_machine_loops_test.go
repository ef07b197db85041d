package tests

import (
	"strings"
	"testing"
)

// Register 5 tells whether the instruction hasn't jumped (of ForPrep) or has (of ForLoop).
func TestExecForPrep(t *testing.T) {
	t.Parallel()
	rows := `
		1, 3, 1                 | = 1 2 1 1 5 1
		1, 3, 2                 | = 1 1 2 1 5 1
		1, 1, 7                 | = 1 0 7 1 5 1
		1, 0, 1                 | = 1 0 1 4 5 nil
		3, 1, -1                | = 3 2 -1 3 5 1
		0, 1, -1                | = 0 1 -1 4 5 nil
		1, 3.5, 1               | = 1 2 1 1 5 1
		3, 0.5, -1              | = 3 2 -1 3 5 1
		1, 0.5, 1               | = 1 0.5 1 4 5 nil
		1, 1e300, 1             | = 1 9223372036854775806 1 1 5 1
		1, math.huge, 1         | = 1 9223372036854775806 1 1 5 1
		-1, math.huge, 1        | = -1 -9223372036854775808 1 -1 5 1
		math.mininteger, math.maxinteger, 1 | = -9223372036854775808 -1 1 -9223372036854775808 5 1
		math.maxinteger, math.mininteger, -1 | = 9223372036854775807 -1 -1 9223372036854775807 5 1
		math.mininteger, math.maxinteger, 2 | = -9223372036854775808 9223372036854775807 2 -9223372036854775808 5 1
		math.maxinteger, math.mininteger, math.mininteger | = 9223372036854775807 1 -9223372036854775808 9223372036854775807 5 1
		0, -math.huge, -1       | = 0 -9223372036854775808 -1 0 5 1
		1, -math.huge, -3       | = 1 3074457345618258603 -3 1 5 1
		1, 0/0, 1               | = 1 nan 1 4 5 nil
		1, 0/0, -1              | = 1 nan -1 4 5 nil
		1.0, 3, 1               | = 1.0 3.0 1.0 1.0 5 1
		1, 3, 0.5               | = 1.0 3.0 0.5 1.0 5 1
		1, 0, 0.5               | = 1 0 0.5 4 5 nil
		1.5, 1, -1              | = 1.5 1.0 -1.0 1.5 5 1
		1, 9007199254740993, 1.0 | = 1.0 9007199254740992.0 1.0 1.0 5 1
		0/0, 1, 1               | = nan 1 1 4 5 nil
		1.0, 0/0, 1             | = 1.0 nan 1 4 5 nil
		1, 0, 0/0               | = 1.0 0.0 nan 1.0 5 1
		0, 1, 0/0               | = 0 1 nan 4 5 nil
		1, 2, 0                 | ! 7: 'for' step is zero
		1, 2, 0.0               | ! 7: 'for' step is zero
		1, 2, -0.0              | ! 7: 'for' step is zero
		'1', 2, 0               | ! 7: 'for' start must be a number
		1, '2', 0               | ! 7: 'for' limit must be a number
		1, 2, '1'               | ! 7: 'for' step must be a number
		nil, nil, nil           | ! 7: 'for' start must be a number
		1, {}, nil              | ! 7: 'for' limit must be a number
		1, 2, nil               | ! 7: 'for' step must be a number
	`
	for _, row := range strings.Split(strings.TrimSpace(rows), "\n") {
		args, want, _ := strings.Cut(row, "|")
		instructionRows(t, "", "ForPrep 0 a; Int 5 1; a: Tick | "+strings.TrimSpace(args)+", 4, 5 | "+want)
	}
}

func TestExecForLoop(t *testing.T) {
	t.Parallel()
	rows := `
		1, 2, 1                 | = 2 1 1 2 5 1
		1, 0, 1                 | = 1 0 1 4 5 nil
		1, 1, 7                 | = 8 0 7 8 5 1
		1, -1, 1                | = 2 -2 1 2 5 1
		1, math.mininteger, 1   | = 2 9223372036854775807 1 2 5 1
		math.maxinteger, 5, 1   | = -9223372036854775808 4 1 -9223372036854775808 5 1
		5, 5, 0                 | = 5 4 0 5 5 1
		5, 5, -7                | = -2 4 -7 -2 5 1
		1.0, 3, 1               | = 2.0 3 1 2.0 5 1
		1, 3.0, 1               | = 2.0 3.0 1 2.0 5 1
		1, 3, 1.0               | = 2.0 3 1.0 2.0 5 1
		1.0, 3.0, 2.0           | = 3.0 3.0 2.0 3.0 5 1
		1.0, 3.0, 2.5           | = 1.0 3.0 2.5 4 5 nil
		3.0, 1.0, -2.0          | = 1.0 1.0 -2.0 1.0 5 1
		3.0, 1.0, -2.5          | = 3.0 1.0 -2.5 4 5 nil
		3.0, 1.0, 0.0           | = 3.0 1.0 0.0 3.0 5 1
		1.0, 3.0, 0.0           | = 1.0 3.0 0.0 4 5 nil
		1, 3.0, 0               | = 1 3.0 0 4 5 nil
		3, 3.0, 0               | = 3.0 3.0 0 3.0 5 1
		1.0, math.huge, 1.0     | = 2.0 inf 1.0 2.0 5 1
		math.huge, math.huge, 1 | = inf inf 1 inf 5 1
		0/0, 1.0, 1.0           | = nan 1.0 1.0 4 5 nil
		1.0, 0/0, 1.0           | = 1.0 nan 1.0 4 5 nil
		1.0, 1.0, 0/0           | = 1.0 1.0 nan 4 5 nil
		math.huge, 1.0, -math.huge | = inf 1.0 -inf 4 5 nil
		9007199254740990.0, 9007199254740993, 2 | = 9007199254740992.0 9007199254740993 2 9007199254740992.0 5 1
		9007199254740992.0, 9007199254740993, 2 | = 9007199254740992.0 9007199254740993 2 4 5 nil
		9007199254740994.0, 9007199254740993, -2 | = 9007199254740994.0 9007199254740993 -2 4 5 nil
		nil, 1, 1               | ! 7: 'for' loop over what are no numbers
		1, nil, 1               | ! 7: 'for' loop over what are no numbers
		1, 1, nil               | ! 7: 'for' loop over what are no numbers
		1, 1, '1'               | ! 7: 'for' loop over what are no numbers
		'1', 0, 1               | ! 7: 'for' loop over what are no numbers
		1, true, 1.0            | ! 7: 'for' loop over what are no numbers
		{}, type, 1             | ! 7: 'for' loop over what are no numbers
		1, 0, {}                | ! 7: 'for' loop over what are no numbers
	`
	for _, row := range strings.Split(strings.TrimSpace(rows), "\n") {
		args, want, _ := strings.Cut(row, "|")
		instructionRows(t, "", "Jump b; a: Tick; Int 5 1; Return 0 7; b: ForLoop 0 a | "+strings.TrimSpace(args)+", 4, 5 | "+want)
	}
}

// Loops of the language, whole, with what they come by put out.
func TestExecLoops(t *testing.T) {
	t.Parallel()
	for _, r := range [][2]string{
		{"for i = 1, 3 do write(i) end", "123 ="},
		{"for i = 3, 1, -1 do write(i) end", "321 ="},
		{"for i = 1, 2, 0.5 do write(i, ' ') end", "1.0 1.5 2.0  ="},
		{"for i = math.maxinteger - 1, math.maxinteger do write(i, ' ') end", "9223372036854775806 9223372036854775807  ="},
		{"for i = 1, 3 do local j = i i = 7 write(j, i) end", "172737 ="},
		{"for k, v in next, {5, 6, x = 7} do write(k, v, ' ') end", "15 26 x7  ="},
		{"for a, b, c, d in function(s, c) if c < 3 then return c + 1, s end end, 's', 0 do write(a, b, rawtostring(c), rawtostring(d), ' ') end", "1snilnil 2snilnil 3snilnil  ="},
		{"for a in coroutine.wrap(function() for i = 1, 3 do coroutine.yield(i) end end) do write(a) end", "123 ="},
		{"for i in 5 do end", "! 1: attempt to call a number value"},
		{"local i = 0 while i < 3 do i = i + 1 if i == 2 then goto on end write(i) ::on:: end", "13 ="},
		{"local i = 0 repeat local j = i i = i + 1 write(j) until j == 2", "012 ="},
	} {
		comesOut(t, r[0], r[1])
	}
}
