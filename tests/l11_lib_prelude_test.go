package tests

import (
	"strings"
	"testing"

	"loop.example/g00002/impl"
)

// The prelude, as chapter 12 has it.
const preludeText = `local rawmeta, rawget, rawset, select, error, type, write, pcall = rawmeta, rawget, rawset, select, error, type, write, pcall
local find, sub, plain, format = string.find, string.sub, string.rawgsub, string.format
local create, resume = coroutine.create, coroutine.resume
local floor = math.floor
function tostring(v)
  local m = rawmeta(v)
  local f = m and rawget(m, "__tostring")
  if f then
    local s = f(v)
    if type(s) ~= "string" then error("'__tostring' must return a string", 2) end
    return s
  end
  return rawtostring(v)
end
function print(...)
  for i = 1, select("#", ...) do
    if i > 1 then write("\t") end
    write(tostring((select(i, ...))))
  end
  write("\n")
end
local function step(t, i)
  i = i + 1
  local v = t[i]
  if v ~= nil then return i, v end
end
function ipairs(t) return step, t, 0 end
function pairs(t)
  local m = rawmeta(t)
  local f = m and rawget(m, "__pairs")
  if f then
    local a, b, c = f(t)
    return a, b, c
  end
  if type(t) ~= "table" then error("attempt to iterate over a " .. type(t) .. " value", 2) end
  return next, t, nil
end
function assert(v, ...)
  if v then return v, ... end
  if select("#", ...) == 0 then error("assertion failed", 0) end
  error((...), 0)
end
function xpcall(f, h, ...)
  local function done(ok, ...)
    if ok then return true, ... end
    return false, h(...)
  end
  return done(pcall(f, ...))
end
function coroutine.wrap(f)
  local co = create(f)
  local function done(ok, ...)
    if ok then return ... end
    error((...), 0)
  end
  return function(...) return done(resume(co, ...)) end
end
function math.ceil(x) return -floor(-x) end
function math.max(a, ...)
  for i = 1, select("#", ...) do
    local b = (select(i, ...))
    if a < b then a = b end
  end
  return a
end
function math.min(a, ...)
  for i = 1, select("#", ...) do
    local b = (select(i, ...))
    if b < a then a = b end
  end
  return a
end
function string.gmatch(s, p)
  local at = 1
  local function give(from, to, ...)
    if not from then
      at = #s + 2
      return nil
    end
    at = to + 1
    if to < from then at = from + 1 end
    if select("#", ...) == 0 then return sub(s, from, to) end
    return ...
  end
  return function()
    if at > #s + 1 then return nil end
    return give(find(s, p, at))
  end
end
function string.gsub(s, p, r, most)
  local kind = type(r)
  if kind ~= "table" and kind ~= "function" then return plain(s, p, r, most) end
  local out, at, n = "", 1, 0
  local function put(from, to, ...)
    if not from then return false end
    local whole = sub(s, from, to)
    local v
    if kind == "table" then
      if select("#", ...) == 0 then v = r[whole] else v = r[(...)] end
    elseif select("#", ...) == 0 then
      v = r(whole)
    else
      v = r(...)
    end
    if not v then
      v = whole
    elseif type(v) ~= "string" and type(v) ~= "number" then
      error("invalid value in a replacement", 0)
    end
    out = out .. sub(s, at, from - 1) .. v
    n = n + 1
    at = to + 1
    if to < from then
      out = out .. sub(s, from, from)
      at = from + 1
    end
    return true
  end
  while (not most or n < most) and at <= #s + 1 and put(find(s, p, at)) do end
  return out .. sub(s, at), n
end
function table.pack(...) return {n = select("#", ...), ...} end
function table.concat(t, sep, i, j)
  sep = sep or ""
  i = i or 1
  j = j or #t
  local out = ""
  for k = i, j do
    local v = t[k]
    if type(v) ~= "string" and type(v) ~= "number" then error("invalid value in 'table.concat'", 2) end
    if k > i then out = out .. sep end
    out = out .. v
  end
  return out
end
function table.insert(t, a, ...)
  local n = #t
  if select("#", ...) == 0 then
    t[n + 1] = a
    return
  end
  if a < 1 or a > n + 1 then error("position out of bounds", 2) end
  for k = n, a, -1 do t[k + 1] = t[k] end
  t[a] = (...)
end
function table.remove(t, at)
  local n = #t
  at = at or n
  if n > 0 and (at < 1 or at > n + 1) then error("position out of bounds", 2) end
  local v = t[at]
  for k = at, n do t[k] = t[k + 1] end
  return v
end
function table.move(a, from, to, at, b)
  b = b or a
  if at <= from or at > to then
    for k = from, to do b[at + k - from] = a[k] end
  else
    for k = to, from, -1 do b[at + k - from] = a[k] end
  end
  return b
end
function table.sort(t, less)
  less = less or function(a, b) return a < b end
  local n = #t
  local from, to = {}, {}
  for k = 1, n do from[k] = t[k] end
  local wide = 1
  while wide < n do
    local l = 1
    while l <= n do
      local m, r = math.min(l + wide, n + 1), math.min(l + 2 * wide, n + 1)
      local p, q = l, m
      for k = l, r - 1 do
        if p < m and (q >= r or not less(from[q], from[p])) then
          to[k] = from[p]
          p = p + 1
        else
          to[k] = from[q]
          q = q + 1
        end
      end
      l = r
    end
    from, to = to, from
    wide = 2 * wide
  end
  for k = 1, n do t[k] = from[k] end
end
`

func TestPrelude(t *testing.T) {
	got := impl.Prelude()
	if got == preludeText {
		return
	}
	lines := strings.SplitAfter(got, "\n")
	for i, want := range strings.SplitAfter(preludeText, "\n") {
		if i >= len(lines) || lines[i] != want {
			t.Fatalf("line %d isn't %q; %d bytes in all", i+1, want, len(got))
		}
	}
	t.Errorf("there is more: %d bytes in all", len(got))
}

func TestPreludeEnds(t *testing.T) {
	got := impl.Prelude()
	if len(got) != 4940 || impl.Crc32([]byte(got)) != 0x19e8c499 {
		t.Errorf("%d bytes with the sum %#x", len(got), impl.Crc32([]byte(got)))
	}
	if !strings.HasPrefix(got, "local rawmeta, rawget, ") || !strings.HasSuffix(got, "do t[k] = from[k] end\nend\n") {
		t.Errorf("it begins or ends otherwise")
	}
	if impl.Prelude() != got {
		t.Errorf("it is another text when asked again")
	}
}

func TestPreludeHasNoFault(t *testing.T) {
	source := impl.Prelude()
	tokens, fault := impl.Lex(source)
	if fault != (impl.Fault{}) || len(tokens) < 1000 {
		t.Errorf("tokens: %d, %+v", len(tokens), fault)
	}
	tree, fault := impl.Parse(source)
	if fault != (impl.Fault{}) || len(tree.Nodes) < 1000 {
		t.Errorf("tree: %d nodes, %+v", len(tree.Nodes), fault)
	}
	scoped, fault := impl.Scope(source)
	if fault != (impl.Fault{}) || len(scoped.Funcs) < 20 {
		t.Errorf("scopes: %d functions, %+v", len(scoped.Funcs), fault)
	}
	chunk, fault := impl.Compile(source)
	if fault != (impl.Fault{}) || impl.Verify(chunk) != (impl.Verdict{}) {
		t.Errorf("code: %d functions, %+v, %+v", len(chunk.Protos), fault, impl.Verify(chunk))
	}
}

// All globals that the prelude reads are primitives, tables that have some, or names that it sets itself.
func TestPreludeReadsWhatThereIs(t *testing.T) {
	known := map[string]bool{}
	for _, name := range append(plainNames(), otherPrimitives...) {
		first, _, _ := strings.Cut(name, ".")
		known[first] = true
	}
	tree, _ := impl.Parse(impl.Prelude())
	scoped, _ := impl.Scope(impl.Prelude())
	for _, node := range tree.Nodes {
		if node.Kind == impl.NodeAssign && tree.Nodes[node.Kids[0]].Kind == impl.NodeName {
			known[tree.Nodes[node.Kids[0]].Text] = true
		}
	}
	for _, use := range scoped.Uses {
		if name := tree.Nodes[use.Node].Text; use.Where == impl.UseGlobal && !known[name] {
			t.Errorf("%s is no global", name)
		}
	}
}
