package tests

import (
	"strconv"
	"strings"
	"testing"

	"loop.example/g00002/impl"
)

// checkSteps looks that a pattern that begins with q takes just so many steps in a subject, from its beginning on: ahead of it
// stand bytes x, which take a step each, up to the last that is allowed, and one behind that.
func checkSteps(t *testing.T, subject, pattern string, steps int, matches bool) {
	t.Helper()
	last := times("x", 50000-steps) + subject
	if _, is, code := impl.Find(last, pattern, 0); is != matches || code != 0 {
		t.Errorf("%s in %s takes more than %d steps, or matches %v: code %d", short(pattern), short(subject), steps, is, code)
	}
	checkFind(t, "x"+last, pattern, 0, "steps")
	if _, is, code := impl.Find("x"+last, pattern, 1); is != matches || code != 0 {
		t.Errorf("%s in %s: what lies ahead of init counts: code %d", short(pattern), short(subject), code)
	}
	if answer, _, _ := strings.Cut(findAllText(impl.FindAll("x"+last, pattern)), " "); answer != "steps" {
		t.Errorf("FindAll of %s in %s takes fewer than %d steps", short(pattern), short(subject), steps)
	}
	if matches {
		if _, count, code := impl.Gsub(last, pattern, "%0", 1); count != 1 || code != 0 {
			t.Errorf("Gsub of %s in %s takes more than %d steps: code %d", short(pattern), short(subject), steps, code)
		}
		checkGsub(t, "x"+last, pattern, "%0", 1, "steps")
	}
}

// What each kind of item counts: one step where it is looked at, and more as told.
func TestPatternStepsOfItems(t *testing.T) {
	for _, c := range []struct {
		subject, pattern string
		steps            int
		matches          bool
	}{
		{"q", "q", 1, true},
		{"qa", "qa", 2, true},
		{"qa", "q.", 2, true},
		{"qa", "q%a", 2, true},
		{"qa", "q[ab]", 2, true},
		{"qb", "qa", 2 + 2, false}, // then at b and at the end
		{"q", "qa", 2 + 1, false},
		{"qab", "qa?b", 3, true},
		{"qb", "qa?b", 3, true},
		{"qab", "qa?ab", 5, true}, // a is looked at twice
		{"q", "qa?", 2, true},
		{"q", "qa*", 2, true},
		{"qaaaaa", "qa*", 2 + 5, true},
		{"qaaab", "qa*b", 2 + 3 + 1, true},
		{"qaaab", "qa*ab", 2 + 3 + 1 + 2, true},
		{"qaaab", "qa*aab", 2 + 3 + 1 + 2 + 3, true},
		{"qaac", "qa*b", 2 + 2 + 3 + 4, false},
		{"qaaa", "qa+", 2 + 3, true},
		{"qaaab", "qa+ab", 2 + 3 + 1 + 2, true},
		{"qac", "qa+b", 2 + 1 + 1 + 3, false}, // not with none of them
		{"q", "qa+", 2 + 1, false},
		{"qaaa", "qa-", 2, true},
		{"qb", "qa-b", 2 + 1, true},
		{"qaab", "qa-b", 2 + 1 + 2 + 2, true},
		{"qaac", "qa-b", 2 + 1 + 2 + 2 + 4, false}, // the byte that isn't of it counts none
		{"qaa", "qa-b", 2 + 1 + 2 + 2 + 3, false},
		{"qa", "q(a)", 4, true},
		{"q", "q()", 2, true},
		{"q", "q()()()", 4, true},
		{"q", "q(())", 4, true},
		{"qaab", "q(a*)b", 1 + 1 + 3 + 1 + 1, true},
		{"qaab", "q(a*)ab", 1 + 1 + 3 + 2 + 3, true},
		{"qaa", "q(a)%1", 5, true},
		{"qaaaaaa", "q(aaa)%1", 7, true},
		{"q", "q(a*)%1", 5, true},
		{"qab", "q(a)%1", 5 + 3, false},
		{"q", "q()%1", 3 + 1, false},
		{"q()", "q%b()", 2 + 1, true},
		{"q(a(b)c)d", "q%b()", 2 + 6, true},
		{"qaba", "q%baa", 2 + 2, true},
		{"q((a)", "q%b()", 2 + 3 + 5, false},
		{"q(", "q%b()", 2 + 2, false},
		{"qa", "q%b()", 2 + 2, false},
		{"q", "q%b()", 2 + 1, false},
		{"qa", "q%f[a]", 2, true},
		{"q", "q%f[^q]", 2, true},
		{"qa", "q%f[b]", 2 + 2, false},
		{"q", "q$", 2, true},
		{"qq", "q$", 2 + 2, true},
		{"qa", "q$", 2 + 2, false},
	} {
		checkSteps(t, c.subject, c.pattern, c.steps, c.matches)
	}
}

// Long runs of one kind of item, at the last step and one behind it.
func TestPatternStepsOfLongRuns(t *testing.T) {
	for _, c := range []struct {
		part, behind, pattern string
		most                  int
		want                  string
	}{
		{"x", "", "a", 49999, "none"},
		{"a", "", "a*", 49999, "0-49999"},
		{"a", "", "^a*$", 49998, "0-49998"},
		{"a", "", "a+", 49999, "0-49999"},
		{"a", "", ".*", 49999, "0-49999"},
		{"a", "", "(a*)", 49997, "0-49997 0-49997"},
		{"a", "", "()a*()", 49997, "0-49997 @0 @49997"},
		{"a", "b", "^a-b", 24999, "0-25000"},
		{"a", ")", "%b()", 49998, "none"},
		{"x", "", "%f[a]", 49999, "none"},
		{"x", "", "$", 49999, "49999-49999"},
		{"x", "", "^$", 65536, "none"},
		{"x", "", "", 65536, "0-0"},
		{"x", "", "^a", 65536, "none"},
		{"x", "", "^", 65536, "0-0"},
	} {
		checkFind(t, times(c.part, c.most)+c.behind, c.pattern, 0, c.want)
		if c.most < 65536 {
			checkFind(t, times(c.part, c.most+1)+c.behind, c.pattern, 0, "steps")
		}
	}
	inside := times("a", 49998)
	checkFind(t, "("+inside+")", "%b()", 0, "0-50000")
	checkFind(t, "("+inside+"a)", "%b()", 0, "steps")
	checkFind(t, "("+inside, "^%b()", 0, "none")
	checkFind(t, "("+inside+"a", "^%b()", 0, "none")
	checkFind(t, "("+inside+"aa", "^%b()", 0, "steps")
	checkFind(t, times("(", 25000)+times(")", 25000), "%b()", 0, "0-50000")
	held := times("a", 32000)
	checkFind(t, held+"b"+held+"b", "^(a*b)%1", 0, "0-64002 0-32001")
	checkFind(t, times("x", 24999), "a?b", 0, "none")
	checkFind(t, times("x", 24998)+"a", "a?b", 0, "steps")
}

// Ways that are very many are never tried all.
func TestPatternStepsAreABound(t *testing.T) {
	full := times("a", 65536)
	for _, pattern := range []string{
		times("a*", 99) + "b", times("a-", 99) + "b", times("a?", 99) + "b", times("a+", 99) + "b", times(".*", 100), times(".-", 99) + "$", times("(a*)", 16) + "b",
		"^" + times("a*", 99) + "b", "^" + times("a-", 98) + "b$", times("(a-)", 16) + "b", "(a*)%1b", "(a-)%1b", "(.*)(.*)%2%1" + times("%1", 80) + "b", "(a-)" + times("%1", 80) + "b",
		times("[^b]*", 39) + "b", times("%b()", 49) + "a*b", "%f[b]", "b",
	} {
		for _, subject := range []string{full, full[:60000], full[:50000]} {
			checkFind(t, subject, pattern, 0, "steps")
			checkFindAll(t, subject, pattern, "steps")
			checkGsub(t, subject, pattern, "%0", len(subject), "steps")
		}
		checkGsub(t, full, pattern, "%0", 0, "0 "+full)
	}
	checkFind(t, full, "%ba"+"b", 0, "steps")
	checkFind(t, times("(", 65536), "%b()", 0, "steps")
	checkFind(t, times("a", 30), times("a*", 99)+"b", 0, "steps")
	checkFind(t, times("a", 30), times("a?", 30)+times("a", 30)+"b", 0, "steps")
}

// All matching of a call counts together.
func TestPatternStepsOfAllMatches(t *testing.T) {
	// A step at each byte, whether it matches or not, and one at the end.
	for _, matches := range []int{0, 1, 5000, 9999} {
		last := times("a", matches) + times("x", 49999-matches)
		if list, code := impl.FindAll(last, "a"); len(list) != matches || code != 0 {
			t.Errorf("50000 steps: %d matches, code %d", len(list), code)
		}
		checkFindAll(t, last+"x", "a", "steps")
		checkFindAll(t, "x"+last, "a", "steps")
		checkGsub(t, last, "a", "b", 50000, strconv.Itoa(matches)+" "+strings.ReplaceAll(last, "a", "b"))
		checkGsub(t, "x"+last, "a", "b", 50000, "steps")
	}
	// Two for each match, and one for each start behind it.
	checkFindAll(t, times("ab", 9999)+times("x", 50000-2*9999-1), "ab", findAllText(modelFindAll(times("ab", 9999), "ab")))
	checkFindAll(t, times("ab", 9999)+times("x", 50000-2*9999), "ab", "steps")
	// An empty match counts the item that was looked at, at the end too.
	checkGsub(t, times("x", 24999), "a?a?", "", 50000, "25000 "+times("x", 24999))
	checkGsub(t, times("x", 25000), "a?a?", "", 50000, "steps")
	checkGsub(t, times("x", 25000), "a?a?", "", 25000, "25000 "+times("x", 25000))
}

// Behind the last match that is asked for nothing is looked for, and counts no steps.
func TestPatternStepsEndWithTheLastMatch(t *testing.T) {
	all := times("a", 49999)
	checkGsub(t, all, "a", "b", 50000, "49999 "+times("b", 49999))
	checkGsub(t, all+"a", "a", "b", 50001, "steps")
	checkGsub(t, all+"a", "a", "b", 50000, "50000 "+times("b", 50000))
	checkGsub(t, all+"aa", "a", "b", 50000, "50000 "+times("b", 50000)+"a")
	checkGsub(t, all+"aa", "a", "b", 50001, "steps")
	checkGsub(t, "a"+times("x", 65535), "a", "b", 1, "1 b"+times("x", 65535))
	checkGsub(t, "a"+times("x", 65535), "a", "b", 2, "steps")
	checkGsub(t, "aa"+times("x", 65534), "a", "b", 2, "2 bb"+times("x", 65534))
	checkGsub(t, "aa"+times("x", 65534), "a", "b", 3, "steps")
	if list, code := impl.FindAll(times("a", 10000)+times("x", 55536), "a"); len(list) != 10000 || code != 0 {
		t.Errorf("what lies behind 10000 matches is looked at: %d matches, code %d", len(list), code)
	}
	checkFindAll(t, times("a", 9999)+times("x", 55537), "a", "steps")
	if list, code := impl.FindAll(times("abcde", 10000)+times("x", 10000), "abcde"); len(list) != 10000 || code != 0 || list[9999].To != 50000 {
		t.Errorf("10000 matches of 5 steps: %d, code %d", len(list), code)
	}
	checkFindAll(t, "x"+times("abcde", 10000), "abcde", "steps")
}
