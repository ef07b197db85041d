package tests

import (
	"cmp"
	"fmt"
	"slices"
	"strconv"
	"strings"
	"testing"
)

func numbersText(list []int) string {
	return strings.Trim(strings.Join(strings.Fields(fmt.Sprint(list)), ", "), "[]")
}

// Promise 18: what is sorted, of numbers and of pairs whose first halves are compared.
func TestExecSort(t *testing.T) {
	t.Parallel()
	chance := words(4000)
	at := 0
	for _, size := range []int{0, 1, 2, 3, 4, 5, 6, 7, 8, 9, 15, 16, 17, 33} {
		var list []int
		for range size {
			list = append(list, int(chance[at]>>40%uint64(1+size)))
			at++
		}
		sorted := slices.Sorted(slices.Values(list))
		backward := slices.Clone(list)
		slices.SortStableFunc(backward, func(a, b int) int { return cmp.Compare(b, a) })
		ahead := "local t = {" + numbersText(list) + "} "
		comesOut(t, ahead+"table.sort(t) write(table.concat(t, ', '))", strings.TrimSpace(numbersText(sorted)+" ="))
		comesOut(t, ahead+"table.sort(t, function(a, b) return a > b end) write(table.concat(t, ', '))", strings.TrimSpace(numbersText(backward)+" ="))
		// Equal ones keep their order: places, sorted by what stands there.
		places := make([]int, size)
		for i := range places {
			places[i] = i + 1
		}
		slices.SortStableFunc(places, func(a, b int) int { return cmp.Compare(list[a-1]/3, list[b-1]/3) })
		comesOut(t, ahead+"local p = {} for i = 1, #t do p[i] = i end table.sort(p, function(a, b) return t[a] // 3 < t[b] // 3 end) write(table.concat(p, ', '))",
			strings.TrimSpace(numbersText(places)+" ="))
	}
	for _, r := range [][2]string{
		{"local t = {'b', 'a', 'c', 'B', ''} table.sort(t) write(table.concat(t, ','))", ",B,a,b,c ="},
		{"local t = {2.5, 1, -1, 2} table.sort(t) write(table.concat(t, ','))", "-1,1,2,2.5 ="},
		{"local m = {__lt = function(a, b) return a.n < b.n end} local t = {} for i = 1, 5 do t[i] = setmetatable({n = 6 - i}, m) end table.sort(t) for i = 1, 5 do write(t[i].n) end", "12345 ="},
		{"local t = {3, 1, 2, nil, 0} table.sort(t) write(t[1], t[2], t[3], t[5])", "1230 ="},
		{"table.sort({}) table.sort({1}) write('done')", "done ="},
		{"local t = setmetatable({}, {__len = function() return 3 end, __index = function(_, k) return 4 - k end}) table.sort(t) write(rawget(t, 1), rawget(t, 2), rawget(t, 3))", "123 ="},
		{"write(select(2, pcall(table.sort, {1, 'x'})))", "121: attempt to compare string with number ="},
		{"write(select(2, pcall(table.sort, {1, 2}, 5)))", "132: attempt to call a number value ="},
	} {
		got := toldShort(execs(t, r[0]))
		if strings.Contains(r[1], ": attempt") {
			_, got, _ = strings.Cut(got, ": ")
			_, r[1], _ = strings.Cut(r[1], ": ")
		}
		if got != r[1] {
			t.Errorf("%s: %s, not %s", r[0], got, r[1])
		}
	}
}

// A comparison that fails at its first, each middle and its last call leaves the table as it was; one that yields goes on.
func TestExecSortThatFails(t *testing.T) {
	t.Parallel()
	const ahead = "local t = {5, 3, 8, 1, 9, 2, 7} local calls, fail = 0, %d local function less(a, b) calls = calls + 1 if calls == fail then error('e', 0) end return a < b end "
	calls, err := strconv.Atoi(execs(t, fmt.Sprintf(ahead, 0)+"table.sort(t, less) return calls").Results[0])
	if err != nil || calls < 6 {
		t.Fatalf("%d calls", calls)
	}
	for fail := 1; fail <= calls+1; fail++ {
		want := "5, 3, 8, 1, 9, 2, 7 false e ="
		if fail > calls {
			want = "1, 2, 3, 5, 7, 8, 9 true nil ="
		}
		comesOut(t, fmt.Sprintf(ahead, fail)+"local ok, e = pcall(table.sort, t, less) write(table.concat(t, ', '), ' ', rawtostring(ok), ' ', rawtostring(e))", want)
	}
	comesOut(t, "local t = {3, 1, 2} local co = coroutine.wrap(function() table.sort(t, function(a, b) coroutine.yield(a .. b) return a < b end) return 'done' end) "+
		"local v repeat v = co() write(v, ' ', table.concat(t), ' ') until v == 'done'", "13 312 21 312 23 312 done 123  =")
	comesOut(t, "local t = {3, 1, 2} local co = coroutine.create(function() table.sort(t, function(a, b) coroutine.yield() return a < b end) end) coroutine.resume(co) coroutine.close(co) write(table.concat(t))", "312 =")
}

// pairs and next go by the order of first coming; an entry without a value stays in its place, until those are taken out.
func TestExecPairs(t *testing.T) {
	t.Parallel()
	const show = "local function s(t) for k, v in pairs(t) do write(k, ' ') end end "
	for _, r := range [][2]string{
		{"s({3, 2, 1, x = 1, y = 2})", "1 2 3 x y  ="},
		{"s({x = 1, 3, y = 2, 4})", "x 1 y 2  ="},
		{"local t = {} t.b = 1 t.a = 2 t[1] = 3 s(t)", "b a 1  ="},
		{"local t = {a = 1, b = 2, c = 3} t.b = nil s(t) t.b = 4 s(t)", "a c a b c  ="},
		{"local t = {a = 1, b = 2, c = 3} t.b = nil t.d = 5 t.b = 4 s(t)", "a b c d  ="},
		{"local t = {} for i = 1, 15 do t[i] = i end for i = 1, 14 do t[i] = nil end t.x = 1 t[1] = 1 s(t)", "1 15 x  ="},
		{"local t = {} for i = 1, 16 do t[i] = i end for i = 1, 15 do t[i] = nil end t.x = 1 t[1] = 1 s(t)", "16 x 1  ="},
		{"local t = {} for i = 1, 16 do t[i] = i end for i = 1, 8 do t[i] = nil end t.x = 1 t[1] = 1 s(t)", "1 9 10 11 12 13 14 15 16 x  ="},
		{"local t = {} for i = 1, 16 do t[i] = i end for i = 1, 9 do t[i] = nil end t.x = 1 t[1] = 1 s(t)", "10 11 12 13 14 15 16 x 1  ="},
		{"local t = {1, 2, 3, 4} for k in pairs(t) do t[k] = nil end write(rawtostring(next(t)))", "nil ="},
		{"local t = {1, 2, 3, 4} for k in pairs(t) do t[k + 1] = nil write(k, ' ') end", "1 3  ="},
		{"local t = {1, 2} for k in pairs(t) do write(k, ' ') if k < 6 then t[k + 2] = 0 end end", "1 2 3 4 5 6 7  ="},
		{"local t = {1, 2, 3} for k in pairs(t) do write(k) collectgarbage() end", "123 ="},
		{"write(rawtostring(next({})), next({5}))", "nil15 ="},
		{"local t = {1} t[1] = nil write(rawtostring((next(t, 1))))", "nil ="},
		{"write(select(2, pcall(next, {}, 1)))", "invalid key to 'next' ="},
		{"local t = {} for i = 1, 16 do t[i] = i end for i = 1, 15 do t[i] = nil end t.x = 1 write(select(2, pcall(next, t, 1)))", "invalid key to 'next' ="},
		{"local t = {[1] = 'a', [2.0] = 'b', [2.5] = 'c'} s(t) write(t[2], next(t, 1), next(t, 2.0))", "1 2 2.5 b22.5c ="},
	} {
		comesOut(t, show+r[0], r[1])
	}
}
