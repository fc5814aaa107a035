package tests

import (
	"slices"
	"strings"
	"testing"

	"loop.example/s02245/impl"
)

func checkParseFault(t *testing.T, src string, wantCode, wantAt int) {
	t.Helper()
	list, code, at := impl.Parse([]byte(src))
	if code != wantCode || at != wantAt || len(list) != 0 {
		t.Errorf("%.80q: code %d at %d with %d nodes, want %d at %d", src, code, at, len(list), wantCode, wantAt)
	}
}

// checkMarked reads sources without their mark @, and wants CodeSyntax there.
func checkMarked(t *testing.T, sources ...string) {
	t.Helper()
	for _, src := range sources {
		before, after, _ := strings.Cut(src, "@")
		checkParseFault(t, before+after, impl.CodeSyntax, len(before))
	}
}

// formSources has every form of the grammar at least once.
const formSources = `local a
local a , a = 1 , a
local function a ( ) end
local function a ( a , a ) return end
do return 1 , a ; end
while a do break ; end
while a do a = 1 ; a ( ) end
repeat a = 1 break until a
if a then end
if a then a ( ) elseif a then elseif a then return else a = 1 end
for a = 1 , a do break end
for a = 1 , a , 1 do a = 1 ; end
a , a . a , a [ 1 ] = 1 , a
( a ) . a , ( 1 ) [ 1 ] = 1
a ( ) . a = 1
a ( )
( a ) ( 1 ) ( a , 1 ) ;
a . a [ a ] ( )
return nil , true , false , 1 , 's' , a
return function ( a ) break end
return function ( a , a ) while a do break end end
return { }
return { 1 , a , a = 1 , [ a ] = 1 , }
return { a == a , { 1 } , a . a }
return a + - a .. not a == ( a or a )
return a and a ( ) or a . a <= a [ 1 ] // 's' % nil
local a = a ( a ) ( a ) . a = 1
a = 1 ( a ) ( )
do if a then break end end
while a do local function a ( ) break end end
repeat if a then do break end end until function ( ) break end
return ; a ( )
return a a`

// tokenName answers how the grammar names a token of a form's source.
func tokenName(token string) string {
	switch {
	case slices.Contains(alphabet, token):
		return token
	case token == "1":
		return "INT"
	case token == "'s'":
		return "STRING"
	}
	return "NAME"
}

func TestParseEveryPlaceOfEveryForm(t *testing.T) {
	g := readGrammar()
	for _, line := range strings.Split(formSources, "\n") {
		c, src := newChart(g), ""
		for _, token := range strings.Fields(line) {
			possible := checkNext(t, c, src)
			if !slices.Contains(possible, tokenName(token)) {
				break
			}
			c.read(tokenName(token))
			src += " " + token
		}
		checkNext(t, c, src)
	}
}

func TestParseEndsTooEarly(t *testing.T) {
	checkMarked(t, "local@", "local a,@", "local a =@", "local a = 1,@", "local function@", "local function f@",
		"local function f(@", "local function f(a@", "local function f(a,@", "local function f()@",
		"do@", "do f()@", "while@", "while a@", "while a do@", "while a do break@", "repeat@", "repeat until@",
		"if@", "if a@", "if a then@", "if a then else@", "if a then elseif@", "if a then elseif b@",
		"for@", "for i@", "for i =@", "for i = 1@", "for i = 1,@", "for i = 1, 2@", "for i = 1, 2,@", "for i = 1, 2 do@",
		"a@", "a.@", "a[@", "a[1@", "a[1]@", "a,@", "a, b@", "a =@", "a = 1,@", "f(@", "f(1@", "f(1,@", "(@", "(a@", "(a)@",
		"return 1,@", "return -@", "return not@", "return a +@", "return {@", "return {a@", "return {a =@", "return {[@",
		"return {[a@", "return {[a]@", "return {[a] =@", "return {1,@", "return function@", "return function(@",
		"return function()@", "a = -- all that follows\n  @", "do -- x\n\t\r\n@")
}

func TestParseSuffixedThatIsNoCall(t *testing.T) {
	checkMarked(t, "a @b = 1", "a.b @c()", "a[1] @;", "a @1", "a @'s'", "a @{}", "a @end", "do a @end", "a @+ 1",
		"(a) @b()", "(f()) @;", "(f())@", "((f)())@", "f().a @g()", "f()[1]@", "(1)@", "(a @= 1)", "a.b.c@", "f() g @h()")
}

func TestParseCannotBeAssignedTo(t *testing.T) {
	checkMarked(t, "f() @= 1", "f()@, a = 1", "(a) @= 1", "(a)@, b = 1", "(a.b) @= 1", "(a[1])@, b = 1", "f().a() @= 1",
		"a, f() @= 1", "a, (b) @= 1", "a, f()@, c = 1", "a, (b)@, c = 1", "a.b, c[1]() @= 1", "(f)() @= 1")
}

func TestParseSuffixedBehindComma(t *testing.T) {
	checkMarked(t, "a, b @c = 1", "a, b@", "a, b @;", "a, f() @;", "a, f()@", "a, f() @g()", "a, (b) @c", "a, b.c @do end",
		"a, @1 = 2", "a, @nil", "a, @= 1", "a, @, b = 1", "a, b, c.d @return", "while x do a, b @end")
}

func TestParseBreakInNoLoop(t *testing.T) {
	checkMarked(t, "@break", "do @break end", "if a then @break end", "f() @break", "if a then else @break end",
		"while a do end @break", "repeat until a @break", "for i = 1, 2 do end @break",
		"while a do local function f() @break end end", "repeat f(function() @break end) until a",
		"for i = 1, 2 do local t = {function() do @break end end} end",
		"while f(function() @break end) do end", "repeat until f(function() @break end)",
		"local function f() while a do break end @break end", "while a do break @break end", "while a do break; @f() end")
	checkParses(t, "while a do local function f() while b do break end end break end")
	checkParses(t, "repeat if a then break elseif b then do break end else break end until a")
}

func TestParseWrongTokens(t *testing.T) {
	checkMarked(t, "@)", "@;", "f();@;", "@1", "@'s'", "@{}", "@end", "@until a", "@else", "@elseif", "@then", "@= 1", "@not a",
		"local @1", "local @end", "local a, @1", "local a @1", "local f(@) end", "local function @1() end", "local function f @end",
		"local function f(@1) end", "local function f(a,@) end", "local function f(a @b) end",
		"do @) end", "do f() @until a", "repeat f() @end", "while @do end", "while a @then end", "while a do @else end",
		"if @then end", "if a @do end", "if a then @until", "if a then else @elseif", "if a then else f() @else end",
		"for @1 = 1, 2 do end", "for a@.b = 1, 2 do end", "for i @, j", "for i = @, 2", "for i = 1 @do", "for i = 1, @do", "for i = 1, 2, 3@, 4 do",
		"for i = 1, 2 @then", "for i @in x", "a.@1 = 2", "a.@end = 2", "a[@] = 1", "a[1@, 2]", "a = @", "a = 1 @= 2", "a = b @2", "f(@,)", "f(1,@)", "f(1 @2)",
		"f @'s'", "f @{}", "return @= 1", "return 1 @f()", "return; @f()", "return;@;", "return @break", "return a @not b", "return 1 @2",
		"return a + @* b", "return (@)", "return (a@, b)", "return {@,}", "return {1,@,}", "return {1@; 2}", "return {a @b}", "return {a.b @= 1}",
		"return {(a) @= 1}", "return {[1] @2}", "return {[@] = 1}", "return {1 @= 2}", "return {@end = 1}", "return function @f() end",
		"return function(@1) end", "@function f() end", "return a @function() end", "f() @, g()", "f() @= g()", "a @== b")
}

func TestParseFirstWrongTokenCounts(t *testing.T) {
	checkMarked(t, "a @b c d )", "f()@) ) end", "do f( @end )", "if a then @) else (")
}

func TestParseGivesTheFaultsOfLex(t *testing.T) {
	digits := strings.Repeat("1", impl.MaxDigits+1)
	checkParseFault(t, ") @", impl.CodeSyntax, 2)
	checkParseFault(t, "a = 'b", impl.CodeSyntax, 4)
	checkParseFault(t, "a = 1x", impl.CodeSyntax, 4)
	checkParseFault(t, "a = "+digits, impl.CodeLimit, 4)
	checkParseFault(t, ") "+digits, impl.CodeLimit, 2)
	checkParseFault(t, ") "+digits+" @", impl.CodeLimit, 2)
	checkParseFault(t, strings.Repeat(" ", impl.MaxSource+1), impl.CodeLimit, impl.MaxSource)
	checkParseFault(t, ")"+strings.Repeat(" ", impl.MaxSource), impl.CodeLimit, impl.MaxSource)
	checkParses(t, strings.Repeat(" ", impl.MaxSource))
}

// bracketed names a source around n repeated parts: what stands before, between
// and behind them.
type bracketed struct{ before, part, behind string }

func (b bracketed) source(n int) string {
	return b.before + strings.Repeat(b.part+",", n-1) + b.part + b.behind
}

func TestParseListLimits(t *testing.T) {
	lists := []bracketed{
		{"local ", "a", ""}, {"local ", "a", " = 1"}, {"local a = ", "1", ""}, {"local function f(", "a", ") end"},
		{"return function(", "a", ") end"}, {"", "a", " = 1"}, {"", "a.b", " = 1"}, {"a = ", "1", ""}, {"a, b = ", "1", ""},
		{"return ", "1", ""}, {"f(", "1", ")"}, {"return f(", "a", ")"}, {"f()(", "1", ")"}, {"a = 1 return {{f(", "1", ")}}"},
	}
	for _, list := range lists {
		checkParses(t, list.source(impl.MaxArgs))
		checkParseFault(t, list.source(impl.MaxArgs+1), impl.CodeLimit, 0)
		checkParseFault(t, "a = b; "+list.source(impl.MaxArgs+1), impl.CodeLimit, 0)
		long := list.source(impl.MaxArgs+1) + " "
		checkParseFault(t, long+")", impl.CodeSyntax, len(long))
	}
	checkParses(t, bracketed{"return {", "1", "}"}.source(1000))
	checkParses(t, bracketed{"return {", "a = 1", "}"}.source(900))
}

func TestParseTextLimits(t *testing.T) {
	for _, frame := range []string{"return @", "local @", "@ = 1", "a.@ = 1", "return {@ = 1}", "local function @() end",
		"local function f(@) end", "return function(a, @) end", "for @ = 1, 2 do end", "return a.@.b", "@()", "return '@'", "return a[\"@\"]", "return {['@'] = 1}"} {
		checkParses(t, strings.Replace(frame, "@", strings.Repeat("n", impl.MaxText), 1))
		checkParseFault(t, strings.Replace(frame, "@", strings.Repeat("n", impl.MaxText+1), 1), impl.CodeLimit, 0)
	}
	// The bytes of the text count, not those of the literal.
	checkParses(t, "return '"+strings.Repeat(`\n`, 2900)+"'")
	checkParses(t, "return '"+strings.Repeat(`\\`, 900)+strings.Repeat("a", impl.MaxText-900)+"'")
	checkParseFault(t, "return '"+strings.Repeat(`\\`, 900)+strings.Repeat("a", impl.MaxText-899)+"'", impl.CodeLimit, 0)
	long := "return " + strings.Repeat("n", impl.MaxText+1) + " "
	checkParseFault(t, long+"1", impl.CodeSyntax, len(long))
}

func TestParseTreeTooLarge(t *testing.T) {
	// A field takes two bytes and two nodes.
	fields := strings.TrimSuffix(strings.Repeat("1,", 2998), ",")
	largest := "a={" + fields + "}"
	list, code, _ := impl.Parse([]byte(largest))
	if code != impl.CodeOK || len(list) != impl.MaxNodes || !impl.ValidTree(list) {
		t.Errorf("the largest tree: code %d, %d nodes", code, len(list))
	}
	checkParseFault(t, "a=-{"+fields+"}", impl.CodeLimit, 0)
	checkParseFault(t, strings.Repeat("f()", 2000), impl.CodeLimit, 0)
	checkParses(t, strings.Repeat("f()", 1999))
	checkParseFault(t, strings.Repeat("f()", 1999)+"f;", impl.CodeSyntax, 3*1999+1)
	checkParseFault(t, "a=-{"+fields+")", impl.CodeSyntax, 4+len(fields))
}

func TestParseTreeTooDeep(t *testing.T) {
	for _, frame := range []bracketed{
		{"return ", "not ", "1"}, {"return ", "- ", "a"}, {"return ", "(-", "1"}, {"return ", "a[", "1"},
		{"a = ", "1 .. ", "1"}, {"a=", "f(", "1"},
	} {
		// Two nodes stand above the first part, and one below the last.
		for _, n := range []int{impl.MaxDeep - 3, impl.MaxDeep - 2, 900} {
			closing := map[string]string{"(-": ")", "a[": "]", "f(": ")"}[frame.part]
			src := frame.before + strings.Repeat(frame.part, n) + frame.behind + strings.Repeat(closing, n)
			if n == impl.MaxDeep-3 {
				checkParses(t, src)
			} else {
				checkParseFault(t, src, impl.CodeLimit, 0)
				checkParseFault(t, src+" )", impl.CodeSyntax, len(src)+1)
			}
		}
	}
	// Operators and suffixes make a tree deep without anything that is open.
	for _, part := range []string{" - a", ".a", "[1]", "()"} {
		checkParses(t, "return a"+strings.Repeat(part, impl.MaxDeep-3))
		checkParseFault(t, "return a"+strings.Repeat(part, impl.MaxDeep-2), impl.CodeLimit, 0)
		checkParseFault(t, "return a"+strings.Repeat(part, 1400), impl.CodeLimit, 0)
	}
	checkParses(t, strings.Repeat("do ", 99)+strings.Repeat("end ", 99))
	checkParseFault(t, strings.Repeat("do ", 100)+strings.Repeat("end ", 100), impl.CodeLimit, 0)
	checkParseFault(t, strings.Repeat("do ", 100)+strings.Repeat("end ", 99), impl.CodeSyntax, 300+4*99)
}

// Parentheses leave nothing behind, however many they are.
func TestParseParenthesesAreNotDeep(t *testing.T) {
	checkTree(t, "return"+strings.Repeat("(", 2990)+"a"+strings.Repeat(")", 2990), returnOf(nameOf("a")))
	checkParseFault(t, strings.Repeat("(", impl.MaxSource), impl.CodeSyntax, impl.MaxSource)
	checkParseFault(t, "return"+strings.Repeat("{", 5000), impl.CodeSyntax, 5006)
	checkParseFault(t, "return"+strings.Repeat("-(", 2900), impl.CodeSyntax, 5806)
}
